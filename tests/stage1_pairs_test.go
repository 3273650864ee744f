package tests

import (
	"testing"

	"loop.example/lucaspairs/impl"
)

func firstAt(t *testing.T, p impl.Pair, place int) int {
	t.Helper()
	n, ok := impl.FirstAt(p, place)
	if !ok {
		t.Fatalf("FirstAt(%v, %d) is not told", p, place)
	}
	return n
}

func secondAt(t *testing.T, p impl.Pair, place int) int {
	t.Helper()
	n, ok := impl.SecondAt(p, place)
	if !ok {
		t.Fatalf("SecondAt(%v, %d) is not told", p, place)
	}
	return n
}

func weightOf(t *testing.T, p impl.Pair) int {
	t.Helper()
	w, ok := impl.WeightOf(p)
	if !ok {
		t.Fatalf("WeightOf(%v) is not told", p)
	}
	return w
}

// checkGoesOn holds that each number from the place 2 on is made of the two before, up to MaxIndex.
func checkGoesOn(t *testing.T, p impl.Pair, at func(*testing.T, impl.Pair, int) int, first, second int) {
	t.Helper()
	if at(t, p, 0) != first || at(t, p, 1) != second {
		t.Errorf("the row of %v begins with %d and %d", p, at(t, p, 0), at(t, p, 1))
	}
	for place := 2; place <= impl.MaxIndex; place++ {
		want := p.P*at(t, p, place-1) - p.Q*at(t, p, place-2)
		if got := at(t, p, place); got != want {
			t.Errorf("%v has %d at %d, not %d", p, got, place, want)
		}
	}
}

type knownRow struct {
	pair       impl.Pair
	begin      [8]int
	at19, at20 int
}

func checkKnown(t *testing.T, row knownRow, at func(*testing.T, impl.Pair, int) int) {
	t.Helper()
	for place, want := range row.begin {
		if got := at(t, row.pair, place); got != want {
			t.Errorf("%v has %d at %d, not %d", row.pair, got, place, want)
		}
	}
	if a, b := at(t, row.pair, 19), at(t, row.pair, 20); a != row.at19 || b != row.at20 {
		t.Errorf("the row of %v ends with %d and %d", row.pair, a, b)
	}
}

func TestMaxIndex(t *testing.T) {
	if impl.MaxIndex != 20 {
		t.Errorf("MaxIndex is %d", impl.MaxIndex)
	}
}

func TestPromise1FibonacciIsAPair(t *testing.T) {
	if !impl.PairOk(fibonacci) {
		t.Error("1 and -1 are no pair")
	}
	for p := -12; p <= 12; p++ {
		for q := -12; q <= 12; q++ {
			want := -4 <= p && p <= 4 && -4 <= q && q <= 4
			if got := impl.PairOk(impl.Pair{P: p, Q: q}); got != want {
				t.Errorf("PairOk(%d, %d) is %v", p, q, got)
			}
			if got := impl.PairOk(impl.Pair{P: -p, Q: -q}); got != want {
				t.Errorf("PairOk(%d, %d), with signs changed, is %v", -p, -q, got)
			}
		}
	}
}

func TestPromise1BadNumbersAreNoPair(t *testing.T) {
	for _, p := range badPairs() {
		if impl.PairOk(p) {
			t.Errorf("%v is a pair", p)
		}
		if turned := (impl.Pair{P: -p.P, Q: -p.Q}); impl.PairOk(turned) {
			t.Errorf("%v is a pair", turned)
		}
	}
}

func TestPromise2EachNumberIsMadeOfTheTwoBefore(t *testing.T) {
	for _, p := range allPairs() {
		checkGoesOn(t, p, firstAt, 0, 1)
	}
	if n := firstAt(t, fibonacci, 10); n != 55 {
		t.Errorf("1 and -1 have %d at the place 10", n)
	}
}

// The numbers here were made apart from the program.
func TestPromise2KnownRows(t *testing.T) {
	rows := []knownRow{
		{impl.Pair{P: 1, Q: -1}, [8]int{0, 1, 1, 2, 3, 5, 8, 13}, 4181, 6765},
		{impl.Pair{P: 2, Q: -1}, [8]int{0, 1, 2, 5, 12, 29, 70, 169}, 6625109, 15994428},
		{impl.Pair{P: 3, Q: 2}, [8]int{0, 1, 3, 7, 15, 31, 63, 127}, 524287, 1048575},
		{impl.Pair{P: 2, Q: 1}, [8]int{0, 1, 2, 3, 4, 5, 6, 7}, 19, 20},
		{impl.Pair{P: 4, Q: -4}, [8]int{0, 1, 4, 20, 96, 464, 2240, 10816}, 1736732573696, 8385686667264},
		{impl.Pair{P: -4, Q: -4}, [8]int{0, 1, -4, 20, -96, 464, -2240, 10816}, 1736732573696, -8385686667264},
		{impl.Pair{P: 4, Q: 4}, [8]int{0, 1, 4, 12, 32, 80, 192, 448}, 4980736, 10485760},
		{impl.Pair{P: -4, Q: 4}, [8]int{0, 1, -4, 12, -32, 80, -192, 448}, 4980736, -10485760},
		{impl.Pair{}, [8]int{0, 1, 0, 0, 0, 0, 0, 0}, 0, 0},
		{impl.Pair{P: 3}, [8]int{0, 1, 3, 9, 27, 81, 243, 729}, 387420489, 1162261467},
		{impl.Pair{Q: 4}, [8]int{0, 1, 0, -4, 0, 16, 0, -64}, -262144, 0},
		{impl.Pair{Q: -4}, [8]int{0, 1, 0, 4, 0, 16, 0, 64}, 262144, 0},
		{impl.Pair{Q: 1}, [8]int{0, 1, 0, -1, 0, 1, 0, -1}, -1, 0},
		{impl.Pair{Q: -1}, [8]int{0, 1, 0, 1, 0, 1, 0, 1}, 1, 0},
		{impl.Pair{P: 1, Q: 1}, [8]int{0, 1, 1, 0, -1, -1, 0, 1}, 1, 1},
		{impl.Pair{P: -1, Q: 1}, [8]int{0, 1, -1, 0, 1, -1, 0, 1}, 1, -1},
	}
	for _, row := range rows {
		checkKnown(t, row, firstAt)
	}
}

func TestPromise2AnythingElseHasNoNumber(t *testing.T) {
	checkNothing(t, "FirstAt", impl.MaxIndex, impl.FirstAt)
}

func TestPromise3BothRowsBelongTogether(t *testing.T) {
	for _, p := range allPairs() {
		for place := 0; place < impl.MaxIndex; place++ {
			want := 2*firstAt(t, p, place+1) - p.P*firstAt(t, p, place)
			if got := secondAt(t, p, place); got != want {
				t.Errorf("SecondAt(%v, %d) is %d, not %d", p, place, got, want)
			}
		}
		for place := 0; place <= 8; place++ {
			first, second := firstAt(t, p, place), secondAt(t, p, place)
			if got, want := second*second-weightOf(t, p)*first*first, 4*power(p.Q, place); got != want {
				t.Errorf("the squares of %v at %d differ by %d, not %d", p, place, got, want)
			}
		}
	}
}

func TestPromise3TheSecondRowGoesOnUpToItsEnd(t *testing.T) {
	for _, p := range allPairs() {
		checkGoesOn(t, p, secondAt, 2, p.P)
	}
}

// The numbers here were made apart from the program.
func TestPromise3KnownRows(t *testing.T) {
	rows := []knownRow{
		{impl.Pair{P: 1, Q: -1}, [8]int{2, 1, 3, 4, 7, 11, 18, 29}, 9349, 15127},
		{impl.Pair{P: 2, Q: -1}, [8]int{2, 2, 6, 14, 34, 82, 198, 478}, 18738638, 45239074},
		{impl.Pair{P: 3, Q: 2}, [8]int{2, 3, 5, 9, 17, 33, 65, 129}, 524289, 1048577},
		{impl.Pair{P: -2, Q: 1}, [8]int{2, -2, 2, -2, 2, -2, 2, -2}, -2, 2},
		{impl.Pair{P: 4, Q: -4}, [8]int{2, 4, 24, 112, 544, 2624, 12672, 61184}, 9824443039744, 47436607258624},
		{impl.Pair{P: -4, Q: 4}, [8]int{2, -4, 8, -16, 32, -64, 128, -256}, -1048576, 2097152},
		{impl.Pair{}, [8]int{2, 0, 0, 0, 0, 0, 0, 0}, 0, 0},
		{impl.Pair{P: 3}, [8]int{2, 3, 9, 27, 81, 243, 729, 2187}, 1162261467, 3486784401},
		{impl.Pair{Q: 4}, [8]int{2, 0, -8, 0, 32, 0, -128, 0}, 0, 2097152},
		{impl.Pair{Q: 1}, [8]int{2, 0, -2, 0, 2, 0, -2, 0}, 0, 2},
		{impl.Pair{P: 1, Q: 1}, [8]int{2, 1, -1, -2, -1, 1, 2, 1}, 1, -1},
		{impl.Pair{P: -1, Q: 1}, [8]int{2, -1, -1, 2, -1, -1, 2, -1}, -1, -1},
	}
	for _, row := range rows {
		checkKnown(t, row, secondAt)
	}
}

func TestPromise3AnythingElseHasNoNumber(t *testing.T) {
	checkNothing(t, "SecondAt", impl.MaxIndex, impl.SecondAt)
}

func TestPromise4WeightsLeave0Or1By4(t *testing.T) {
	for _, p := range allPairs() {
		weight := weightOf(t, p)
		if weight != p.P*p.P-4*p.Q {
			t.Errorf("WeightOf(%v) is %d", p, weight)
		}
		if got, want := remainder(weight, 4), remainder(p.P, 2); got != want {
			t.Errorf("WeightOf(%v) leaves %d by 4, not %d", p, got, want)
		}
		if turned := weightOf(t, impl.TurnedOf(p)); turned != weight {
			t.Errorf("the weight of %v is %d, but %d if it is turned", p, weight, turned)
		}
	}
}

func TestPromise4KnownWeights(t *testing.T) {
	weights := map[impl.Pair]int{
		{P: 1, Q: -1}: 5, {P: 3, Q: 2}: 1, {P: 2, Q: 1}: 0, {}: 0, {P: 3}: 9, {Q: 3}: -12,
		{P: 4, Q: 4}: 0, {P: 4, Q: -4}: 32, {P: -4, Q: -4}: 32, {P: -4, Q: 4}: 0, {Q: 4}: -16, {Q: -4}: 16,
		{P: 1, Q: 4}: -15,
	}
	for p, want := range weights {
		if got := weightOf(t, p); got != want {
			t.Errorf("WeightOf(%v) is %d, not %d", p, got, want)
		}
	}
}

func TestPromise4AnythingElseHasNoWeight(t *testing.T) {
	for _, p := range badPairs() {
		if n, ok := impl.WeightOf(p); n != 0 || ok {
			t.Errorf("WeightOf(%v) is %d, %v", p, n, ok)
		}
	}
}

func TestPromise5TurnedPairsChangeEverySecondSign(t *testing.T) {
	for _, p := range allPairs() {
		turned := impl.TurnedOf(p)
		if turned != (impl.Pair{P: -p.P, Q: p.Q}) {
			t.Errorf("TurnedOf(%v) is %v", p, turned)
		}
		if again := impl.TurnedOf(turned); again != p {
			t.Errorf("%v turned twice is %v", p, again)
		}
		for place := 0; place <= impl.MaxIndex; place++ {
			firstSign, secondSign := -1, 1
			if place%2 == 1 {
				firstSign, secondSign = 1, -1
			}
			if got, want := firstAt(t, turned, place), firstSign*firstAt(t, p, place); got != want {
				t.Errorf("FirstAt(%v, %d) is %d, not %d", turned, place, got, want)
			}
			if got, want := secondAt(t, turned, place), secondSign*secondAt(t, p, place); got != want {
				t.Errorf("SecondAt(%v, %d) is %d, not %d", turned, place, got, want)
			}
		}
	}
}

func TestPromise5AnythingElseIsNotTurned(t *testing.T) {
	for _, p := range badPairs() {
		if turned := impl.TurnedOf(p); turned != (impl.Pair{}) {
			t.Errorf("TurnedOf(%v) is %v", p, turned)
		}
	}
}

func TestRowsAskedAgainAreTheSame(t *testing.T) {
	for _, p := range allPairs() {
		for place := impl.MaxIndex; place >= 0; place-- {
			first, second := firstAt(t, p, place), secondAt(t, p, place)
			if firstAt(t, p, place) != first || secondAt(t, p, place) != second {
				t.Errorf("the rows of %v at %d differ when they are asked again", p, place)
			}
		}
	}
}
