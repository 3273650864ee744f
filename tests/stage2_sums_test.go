package tests

import (
	"testing"

	"loop.example/lucaspairs/impl"
)

func atSum(t *testing.T, p impl.Pair, a, b int) int {
	t.Helper()
	n, ok := impl.AtSum(p, a, b)
	if !ok {
		t.Fatalf("AtSum(%v, %d, %d) is not told", p, a, b)
	}
	return n
}

func atTwice(t *testing.T, p impl.Pair, place int) int {
	t.Helper()
	n, ok := impl.AtTwice(p, place)
	if !ok {
		t.Fatalf("AtTwice(%v, %d) is not told", p, place)
	}
	return n
}

func aboutOf(t *testing.T, p impl.Pair, place, far int) int {
	t.Helper()
	n, ok := impl.AboutOf(p, place, far)
	if !ok {
		t.Fatalf("AboutOf(%v, %d, %d) is not told", p, place, far)
	}
	return n
}

func sumTo(t *testing.T, p impl.Pair, place int) int {
	t.Helper()
	n, ok := impl.SumTo(p, place)
	if !ok {
		t.Fatalf("SumTo(%v, %d) is not told", p, place)
	}
	return n
}

func TestPromise6RowsGoOnFromAnywhere(t *testing.T) {
	for _, p := range allPairs() {
		for a := 1; a <= 10; a++ {
			for b := 0; b <= 9; b++ {
				if got, want := atSum(t, p, a, b), firstAt(t, p, a+b); got != want {
					t.Errorf("AtSum(%v, %d, %d) is %d, not %d", p, a, b, got, want)
				}
				made := firstAt(t, p, a)*firstAt(t, p, b+1) - p.Q*firstAt(t, p, a-1)*firstAt(t, p, b)
				if got := atSum(t, p, a, b); got != made {
					t.Errorf("AtSum(%v, %d, %d) is %d, but made of both places %d", p, a, b, got, made)
				}
			}
		}
	}
}

// The numbers here were made apart from the program.
func TestPromise6KnownSums(t *testing.T) {
	places := [5][2]int{{1, 0}, {10, 0}, {1, 9}, {10, 9}, {5, 7}}
	sums := map[impl.Pair][5]int{
		{P: 1, Q: -1}:  {1, 55, 55, 4181, 144},
		{P: 2, Q: -1}:  {1, 2378, 2378, 6625109, 13860},
		{P: 3, Q: 2}:   {1, 1023, 1023, 524287, 4095},
		{P: 4, Q: -4}:  {1, 1217536, 1217536, 1736732573696, 28385280},
		{P: -4, Q: -4}: {1, -1217536, -1217536, 1736732573696, -28385280},
		{P: 4, Q: 4}:   {1, 5120, 5120, 4980736, 24576},
		{P: -4, Q: 4}:  {1, -5120, -5120, 4980736, -24576},
		{}:             {1, 0, 0, 0, 0},
		{P: 3}:         {1, 19683, 19683, 387420489, 177147},
		{Q: 4}:         {1, 0, 0, -262144, 0},
		{P: 1, Q: 1}:   {1, -1, -1, 1, 0},
	}
	for p, numbers := range sums {
		for i, want := range numbers {
			if got := atSum(t, p, places[i][0], places[i][1]); got != want {
				t.Errorf("AtSum(%v, %v) is %d, not %d", p, places[i], got, want)
			}
		}
	}
}

func TestPromise6AnythingElseHasNoSum(t *testing.T) {
	for _, p := range allPairs() {
		checkTwoNothing(t, "AtSum", p, outside(1, 10), upTo(0, 9), impl.AtSum)
		checkTwoNothing(t, "AtSum", p, upTo(1, 10), outside(0, 9), impl.AtSum)
	}
	checkTwoNothing(t, "AtSum", fibonacci, outside(1, 10), outside(0, 9), impl.AtSum)
	for _, p := range badPairs() {
		places := append(farNumbers(), upTo(-1, 11)...)
		checkTwoNothing(t, "AtSum", p, places, places, impl.AtSum)
	}
}

func TestPromise7BothRowsMultipliedAreTheRowAtTwiceThePlace(t *testing.T) {
	for _, p := range allPairs() {
		for place := 0; place <= 10; place++ {
			got := atTwice(t, p, place)
			if want := firstAt(t, p, 2*place); got != want {
				t.Errorf("AtTwice(%v, %d) is %d, not %d", p, place, got, want)
			}
			if made := firstAt(t, p, place) * secondAt(t, p, place); got != made {
				t.Errorf("AtTwice(%v, %d) is %d, but both rows multiplied are %d", p, place, got, made)
			}
		}
	}
}

// The numbers here were made apart from the program.
func TestPromise7KnownDoubles(t *testing.T) {
	places := [4]int{0, 1, 5, 10}
	doubles := map[impl.Pair][4]int{
		{P: 1, Q: -1}:  {0, 1, 55, 6765},
		{P: 2, Q: -1}:  {0, 2, 2378, 15994428},
		{P: 3, Q: 2}:   {0, 3, 1023, 1048575},
		{P: 4, Q: -4}:  {0, 4, 1217536, 8385686667264},
		{P: -4, Q: -4}: {0, -4, -1217536, -8385686667264},
		{P: 4, Q: 4}:   {0, 4, 5120, 10485760},
		{P: -4, Q: 4}:  {0, -4, -5120, -10485760},
		{}:             {0, 0, 0, 0},
		{P: 3}:         {0, 3, 19683, 1162261467},
		{Q: -4}:        {0, 0, 0, 0},
		{P: 2, Q: 1}:   {0, 2, 10, 20},
	}
	for p, numbers := range doubles {
		for i, want := range numbers {
			if got := atTwice(t, p, places[i]); got != want {
				t.Errorf("AtTwice(%v, %d) is %d, not %d", p, places[i], got, want)
			}
		}
	}
}

func TestPromise7AnythingElseHasNoDouble(t *testing.T) {
	checkNothing(t, "AtTwice", 10, impl.AtTwice)
}

func TestPromise8MiddlesArePowersTimesSquares(t *testing.T) {
	for _, p := range allPairs() {
		for place := 0; place <= 10; place++ {
			for far := 0; far <= place; far++ {
				got := aboutOf(t, p, place, far)
				if want := power(p.Q, place-far) * power(firstAt(t, p, far), 2); got != want {
					t.Errorf("AboutOf(%v, %d, %d) is %d, not %d", p, place, far, got, want)
				}
				made := power(firstAt(t, p, place), 2) - firstAt(t, p, place-far)*firstAt(t, p, place+far)
				if got != made {
					t.Errorf("AboutOf(%v, %d, %d) is %d, but made of three places %d", p, place, far, got, made)
				}
			}
		}
	}
}

// The numbers here were made apart from the program.
func TestPromise8KnownMiddles(t *testing.T) {
	places := [6][2]int{{0, 0}, {10, 0}, {10, 10}, {10, 1}, {6, 1}, {3, 2}}
	middles := map[impl.Pair][6]int{
		{P: 1, Q: -1}:  {0, 0, 3025, -1, -1, -1},
		{P: 2, Q: -1}:  {0, 0, 5654884, -1, -1, -4},
		{P: 3, Q: 2}:   {0, 0, 1046529, 512, 32, 18},
		{P: 4, Q: -4}:  {0, 0, 1482393911296, -262144, -1024, -64},
		{P: -4, Q: -4}: {0, 0, 1482393911296, -262144, -1024, -64},
		{P: 4, Q: 4}:   {0, 0, 26214400, 262144, 1024, 64},
		{P: -4, Q: 4}:  {0, 0, 26214400, 262144, 1024, 64},
		{}:             {0, 0, 0, 0, 0, 0},
		{P: 3}:         {0, 0, 387420489, 0, 0, 0},
		{P: 1}:         {0, 0, 1, 0, 0, 0},
		{Q: 4}:         {0, 0, 0, 262144, 1024, 0},
		{Q: -1}:        {0, 0, 0, -1, -1, 0},
	}
	for p, numbers := range middles {
		for i, want := range numbers {
			if got := aboutOf(t, p, places[i][0], places[i][1]); got != want {
				t.Errorf("AboutOf(%v, %v) is %d, not %d", p, places[i], got, want)
			}
		}
	}
}

func TestPromise8AnythingElseHasNoMiddle(t *testing.T) {
	for _, p := range allPairs() {
		checkTwoNothing(t, "AboutOf", p, outside(0, 10), upTo(-1, 11), impl.AboutOf)
		for place := 0; place <= 10; place++ {
			checkTwoNothing(t, "AboutOf", p, []int{place}, outside(0, place), impl.AboutOf)
		}
	}
	checkTwoNothing(t, "AboutOf", fibonacci, outside(0, 10), outside(0, 10), impl.AboutOf)
	for _, p := range badPairs() {
		places := append(farNumbers(), upTo(-1, 11)...)
		checkTwoNothing(t, "AboutOf", p, places, places, impl.AboutOf)
	}
}

func TestPromise9SumsAreToldByTwoNumbers(t *testing.T) {
	for _, p := range allPairs() {
		for place := 0; place < impl.MaxIndex; place++ {
			told := firstAt(t, p, place+1) - p.Q*firstAt(t, p, place) - 1
			if got := (p.P - p.Q - 1) * sumTo(t, p, place); got != told {
				t.Errorf("SumTo(%v, %d), times P less Q less 1, is %d, not %d", p, place, got, told)
			}
		}
	}
}

// Where P less Q is 1, two numbers tell nothing of a sum; so each sum is added here, too.
func TestPromise9SumsAreAdded(t *testing.T) {
	for _, p := range allPairs() {
		want := 0
		for place := 0; place < impl.MaxIndex; place++ {
			want += firstAt(t, p, place)
			if got := sumTo(t, p, place); got != want {
				t.Errorf("SumTo(%v, %d) is %d, not %d", p, place, got, want)
			}
		}
	}
}

// The numbers here were made apart from the program; those of the pairs for which P less Q is 1 stand last.
func TestPromise9KnownSums(t *testing.T) {
	places := [4]int{0, 1, 6, 19}
	sums := map[impl.Pair][4]int{
		{P: 1, Q: -1}:  {0, 1, 20, 10945},
		{P: 2, Q: -1}:  {0, 1, 119, 11309768},
		{P: 4, Q: -4}:  {0, 1, 2825, 2190373851721},
		{P: -4, Q: -4}: {0, 1, -1855, 1438756372481},
		{P: 4, Q: 4}:   {0, 1, 321, 9437185},
		{P: -4, Q: 4}:  {0, 1, -135, 3378745},
		{}:             {0, 1, 1, 1},
		{P: 3}:         {0, 1, 364, 581130733},
		{Q: 4}:         {0, 1, 13, -209715},
		{Q: -4}:        {0, 1, 21, 349525},
		{P: 1, Q: 1}:   {0, 1, 0, 1},
		{P: -3, Q: -4}: {0, 1, -654, 43980465115},
		{P: -2, Q: -3}: {0, 1, -135, 217924030},
		{P: -1, Q: -2}: {0, 1, -12, 116515},
		{Q: -1}:        {0, 1, 3, 10},
		{P: 1}:         {0, 1, 6, 19},
		{P: 2, Q: 1}:   {0, 1, 21, 190},
		{P: 3, Q: 2}:   {0, 1, 120, 1048555},
		{P: 4, Q: 3}:   {0, 1, 543, 871696090},
	}
	for p, numbers := range sums {
		for i, want := range numbers {
			if got := sumTo(t, p, places[i]); got != want {
				t.Errorf("SumTo(%v, %d) is %d, not %d", p, places[i], got, want)
			}
		}
	}
}

func TestPromise9AnythingElseHasNoSum(t *testing.T) {
	checkNothing(t, "SumTo", impl.MaxIndex-1, impl.SumTo)
}
