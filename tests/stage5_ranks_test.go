package tests

import (
	"fmt"
	"math/big"
	"slices"
	"testing"

	"loop.example/lucaspairs/impl"
)

// The greatest number and the greatest place of SameRanks, the greatest number of LeastOver, and the greatest rank of all, which 350 has for Fibonacci.
const (
	alike         = 100
	ranksAsked    = 200
	underAtMost   = 200000
	greatestFound = 600
)

// sharing reports whether a number has a common divisor but 1 with a Q that is in -4..4; those to be tried are few.
func sharing(by, q int) bool {
	return by%2 == 0 && q%2 == 0 || by%3 == 0 && q%3 == 0
}

// rankByRow is the rank as the row tells it, number by number and apart from the program; 0 for numbers without a rank.
func rankByRow(p impl.Pair, by int) int {
	if p.Q == 0 || sharing(by, p.Q) {
		return 0
	}
	now, next := remainder(1, by), remainder(p.P, by)
	for place := 1; place <= greatestFound; place++ {
		if now == 0 {
			return place
		}
		now, next = next, remainder(p.P*next-p.Q*now, by)
	}
	panic(fmt.Sprint("no rank of ", by, " for ", p))
}

// allRanks has the ranks of all pairs and numbers, as rankByRow has them, by the pair and the number.
func allRanks() map[impl.Pair][]int {
	ranks := map[impl.Pair][]int{}
	for _, p := range allPairs() {
		ranks[p] = make([]int, impl.MaxRanked+1)
		for by := 1; by <= impl.MaxRanked; by++ {
			ranks[p][by] = rankByRow(p, by)
		}
	}
	return ranks
}

func rankOf(t *testing.T, p impl.Pair, by int) int {
	t.Helper()
	return rankedAs(t, "RankOf", p, by, impl.RankOf)
}

func checkNoRank(t *testing.T, p impl.Pair, numbers []int) {
	t.Helper()
	checkNotRanked(t, "RankOf", p, numbers, impl.RankOf)
}

func checkDivides(t *testing.T, p impl.Pair, by, place int, want bool) {
	t.Helper()
	if got := impl.DividesAt(p, by, place); got != want {
		t.Errorf("DividesAt(%v, %d, %d) is %v", p, by, place, got)
	}
}

func checkSame(t *testing.T, p impl.Pair, place int, want []int) {
	t.Helper()
	if got := impl.SameRanks(p, place); !slices.Equal(got, want) {
		t.Errorf("SameRanks(%v, %d) is %v, not %v", p, place, got, want)
	}
}

func checkLeast(t *testing.T, a, b, want int) {
	t.Helper()
	if got := impl.LeastOver(a, b); got != want {
		t.Errorf("LeastOver(%d, %d) is %d, not %d", a, b, got, want)
	}
}

func greatestCommon(a, b int) int {
	return int(new(big.Int).GCD(nil, nil, big.NewInt(int64(a)), big.NewInt(int64(b))).Int64())
}

func TestMaxRanked(t *testing.T) {
	if impl.MaxRanked != 400 {
		t.Errorf("MaxRanked is %d", impl.MaxRanked)
	}
}

func TestPromise19RanksAreTheFirstPlaces(t *testing.T) {
	for p, ranks := range allRanks() {
		for by := 1; by <= impl.MaxRanked; by++ {
			if ranks[by] == 0 {
				checkNoRank(t, p, []int{by})
				continue
			}
			if got := rankOf(t, p, by); got != ranks[by] {
				t.Errorf("RankOf(%v, %d) is %d, not %d", p, by, got, ranks[by])
			}
		}
	}
}

func TestPromise19TheNumberDividesAtItsRankAndNotBefore(t *testing.T) {
	numbers := append(upTo(1, 30), 64, 81, 97, 100, 121, 125, 128, 210, 243, 256, 289, 343, 350, 359, 361, 377, 390, 397, 398, 399, 400)
	for p, ranks := range allRanks() {
		for _, by := range numbers {
			if ranks[by] == 0 {
				continue
			}
			rank := rankOf(t, p, by)
			for place := 1; place <= rank; place++ {
				if left := impl.FarFirst(p, place, by); (left == 0) != (place == rank) {
					t.Errorf("the rank of %d for %v is %d, but at %d is left %d", by, p, rank, place, left)
				}
			}
		}
	}
}

func TestPromise19RanksOfDivisorsDivide(t *testing.T) {
	for p, ranks := range allRanks() {
		for divisor := 1; divisor <= impl.MaxRanked; divisor++ {
			for by := divisor; by <= impl.MaxRanked; by += divisor {
				if ranks[by] == 0 {
					continue
				}
				if all, part := rankOf(t, p, by), rankOf(t, p, divisor); all%part != 0 {
					t.Errorf("for %v the rank of %d is %d, but that of %d is %d", p, by, all, divisor, part)
				}
			}
		}
	}
}

func TestPromise19RanksOfNumbersThatAreApart(t *testing.T) {
	for p, ranks := range allRanks() {
		for a := 1; a <= impl.MaxRanked; a++ {
			for b := 1; a*b <= impl.MaxRanked; b++ {
				if ranks[a] == 0 || ranks[b] == 0 || greatestCommon(a, b) != 1 {
					continue
				}
				both := rankOf(t, p, a*b)
				if want := impl.LeastOver(rankOf(t, p, a), rankOf(t, p, b)); both != want {
					t.Errorf("the rank of %d times %d for %v is %d, not %d", a, b, p, both, want)
				}
			}
		}
	}
}

// The numbers here were made apart from the program; -1 is for numbers that have a common divisor with Q.
func TestPromise19KnownRanks(t *testing.T) {
	numbers := [16]int{1, 2, 3, 5, 9, 10, 100, 128, 210, 243, 343, 377, 390, 397, 399, 400}
	known := map[impl.Pair][16]int{
		{P: 1, Q: -1}:  {1, 3, 4, 5, 12, 15, 150, 96, 120, 324, 392, 14, 420, 199, 72, 300},
		{P: -1, Q: -1}: {1, 3, 4, 5, 12, 15, 150, 96, 120, 324, 392, 14, 420, 199, 72, 300},
		{P: 3, Q: 2}:   {1, -1, 2, 4, 6, -1, -1, -1, -1, 162, 147, 84, -1, 44, 18, -1},
		{P: 4, Q: -4}:  {1, -1, 4, 3, 12, -1, -1, -1, -1, 324, 294, 35, -1, 199, 60, -1},
		{P: -4, Q: -4}: {1, -1, 4, 3, 12, -1, -1, -1, -1, 324, 294, 35, -1, 199, 60, -1},
		{P: 4, Q: 4}:   {1, -1, 3, 5, 9, -1, -1, -1, -1, 243, 343, 377, -1, 397, 399, -1},
		{P: -4, Q: 4}:  {1, -1, 3, 5, 9, -1, -1, -1, -1, 243, 343, 377, -1, 397, 399, -1},
		{Q: 1}:         {1, 2, 2, 2, 2, 2, 2, 2, 2, 2, 2, 2, 2, 2, 2, 2},
		{Q: -1}:        {1, 2, 2, 2, 2, 2, 2, 2, 2, 2, 2, 2, 2, 2, 2, 2},
		{Q: 4}:         {1, -1, 2, 2, 2, -1, -1, -1, -1, 2, 2, 2, -1, 2, 2, -1},
		{Q: -3}:        {1, 2, -1, 2, -1, 2, 2, 2, -1, -1, 2, 2, -1, 2, -1, 2},
		{P: 1, Q: 1}:   {1, 3, 3, 3, 3, 3, 3, 3, 3, 3, 3, 3, 3, 3, 3, 3},
		{P: 2, Q: 2}:   {1, -1, 4, 4, 4, -1, -1, -1, -1, 4, 4, 4, -1, 4, 4, -1},
		{P: 3, Q: 3}:   {1, 3, -1, 6, -1, 6, 6, 6, -1, -1, 6, 6, -1, 6, -1, 6},
		{P: 2, Q: -1}:  {1, 2, 4, 3, 12, 6, 60, 128, 12, 324, 294, 35, 84, 199, 60, 240},
		{P: -3, Q: 1}:  {1, 3, 2, 5, 6, 15, 75, 48, 60, 162, 196, 7, 210, 199, 36, 150},
		{P: 2, Q: 1}:   {1, 2, 3, 5, 9, 10, 100, 128, 210, 243, 343, 377, 390, 397, 399, 400},
		{P: 4, Q: 1}:   {1, 2, 3, 3, 9, 6, 30, 64, 12, 243, 196, 30, 6, 198, 60, 120},
		{P: -4, Q: 3}:  {1, 2, -1, 4, -1, 4, 20, 64, -1, -1, 294, 84, -1, 198, -1, 40},
		{P: 3, Q: -4}:  {1, -1, 2, 5, 6, -1, -1, -1, -1, 162, 294, 21, -1, 11, 18, -1},
	}
	for p, ranks := range known {
		for i, want := range ranks {
			if got, ok := impl.RankOf(p, numbers[i]); got != want || ok != (want > 0) {
				t.Errorf("RankOf(%v, %d) is %d, %v, not %d", p, numbers[i], got, ok, want)
			}
		}
	}
	if got := rankOf(t, fibonacci, 350); got != greatestFound {
		t.Errorf("the greatest rank, of 350 for Fibonacci, is %d", got)
	}
}

// 1 has a rank whatever Q is, but for 0.
func TestPromise19OneHasTheRankOne(t *testing.T) {
	for _, p := range allPairs() {
		if p.Q == 0 {
			checkNoRank(t, p, []int{1})
		} else if got := rankOf(t, p, 1); got != 1 {
			t.Errorf("RankOf(%v, 1) is %d", p, got)
		}
	}
}

// That some divide the row all the same does not matter: so does 2 at the place 2 of 2 and 2, and each number that of 0 and 0.
func TestPromise19WhatSharesWithQHasNoRank(t *testing.T) {
	for _, p := range allPairs() {
		for by := 1; by <= impl.MaxRanked; by++ {
			_, ok := impl.RankOf(p, by)
			if want := p.Q != 0 && greatestCommon(by, max(p.Q, -p.Q)) == 1; ok != want {
				t.Errorf("RankOf(%v, %d) is told: %v", p, by, ok)
			}
		}
	}
	checkNoRank(t, impl.Pair{P: 2, Q: 2}, []int{2, 4, 6, 400})
	checkNoRank(t, impl.Pair{P: 3, Q: -3}, []int{3, 6, 9, 399})
	checkNoRank(t, impl.Pair{}, upTo(1, impl.MaxRanked))
}

func TestPromise19AnythingElseHasNoRank(t *testing.T) {
	checkNothingRanked(t, "RankOf", impl.RankOf)
}

func TestPromise20NumbersDivideAtMultiplesOfTheirRank(t *testing.T) {
	numbers := append(upTo(1, 20), 64, 97, 100, 128, 210, 243, 343, 377, 390, 397, 399, 400)
	for p, ranks := range allRanks() {
		for _, by := range numbers {
			for _, place := range placesBeside(ranks[by]) {
				want := ranks[by] != 0 && impl.FarFirst(p, place, by) == 0
				checkDivides(t, p, by, place, want)
			}
		}
	}
}

// placesBeside has near and far places, multiples of a rank and the places beside them; without a rank it has those of some other one.
func placesBeside(rank int) []int {
	if rank == 0 {
		rank = 6
	}
	places := farPlaces()
	for _, times := range []int{1, 2, 3, 7, 1000, 1001, impl.MaxFar/rank - 1, impl.MaxFar / rank} {
		for place := times*rank - 1; place <= times*rank+1; place++ {
			if 0 <= place && place <= impl.MaxFar {
				places = append(places, place)
			}
		}
	}
	return places
}

func TestPromise20AtNoughtAllWithARankDivide(t *testing.T) {
	for p, ranks := range allRanks() {
		for by := 1; by <= impl.MaxRanked; by++ {
			checkDivides(t, p, by, 0, ranks[by] != 0)
			checkDivides(t, p, by, 1, ranks[by] == 1)
			checkDivides(t, p, by, impl.MaxFar, ranks[by] != 0 && impl.MaxFar%ranks[by] == 0)
		}
	}
}

// The ranks are 8, 15, 5, 12, 300, 1, 2 and 6; 1000000000 is a multiple of 8, 5, 1 and 2, 999999996 of 12 and 6, and 999999900 of 300.
func TestPromise20KnownPlaces(t *testing.T) {
	known := []struct {
		pair      impl.Pair
		by, place int
		want      bool
	}{
		{fibonacci, 7, 0, true}, {fibonacci, 7, 8, true}, {fibonacci, 7, 7, false}, {fibonacci, 7, 800, true}, {fibonacci, 7, 801, false},
		{fibonacci, 7, 1000000000, true}, {fibonacci, 7, 999999999, false}, {fibonacci, 7, 999999992, true}, {fibonacci, 7, 999999996, false},
		{fibonacci, 10, 15, true}, {fibonacci, 10, 1000000000, false}, {fibonacci, 10, 999999990, true}, {fibonacci, 10, 999999995, false},
		{fibonacci, 5, 1000000000, true}, {fibonacci, 5, 999999999, false}, {fibonacci, 9, 999999996, true}, {fibonacci, 9, 1000000000, false},
		{fibonacci, 400, 999999900, true}, {fibonacci, 400, 1000000000, false}, {fibonacci, 400, 300, true}, {fibonacci, 400, 200, false},
		{fibonacci, 1, 1, true}, {fibonacci, 1, 1000000000, true}, {fibonacci, 401, 0, false}, {fibonacci, 0, 0, false},
		{impl.Pair{Q: 1}, 2, 1000000000, true}, {impl.Pair{Q: 1}, 2, 999999999, false}, {impl.Pair{Q: -3}, 400, 2, true}, {impl.Pair{Q: -3}, 3, 2, false},
		{impl.Pair{P: 3, Q: 2}, 9, 999999996, true}, {impl.Pair{P: 3, Q: 2}, 9, 999999998, false}, {impl.Pair{P: 3, Q: 2}, 6, 0, false},
		{impl.Pair{P: 1}, 1, 0, false}, {impl.Pair{}, 2, 2, false}, {impl.Pair{P: 2, Q: 2}, 2, 2, false}, {impl.Pair{P: 2, Q: 2}, 3, 4, true},
	}
	for _, k := range known {
		checkDivides(t, k.pair, k.by, k.place, k.want)
	}
}

func TestPromise20AnythingElseDividesNothing(t *testing.T) {
	bad := append(outside(0, impl.MaxFar), -8, -impl.MaxFar, impl.MaxFar+8, 2*impl.MaxFar)
	for _, p := range allPairs() {
		for _, place := range bad {
			for _, by := range []int{1, 5, 7, impl.MaxRanked} {
				checkDivides(t, p, by, place, false)
			}
		}
		for _, by := range outside(1, impl.MaxRanked) {
			checkDivides(t, p, by, 0, false)
			checkDivides(t, p, by, 600, false)
			checkDivides(t, p, by, -1, false)
		}
	}
	for _, p := range badPairs() {
		for _, by := range append(farNumbers(), -1, 0, 1, 7, impl.MaxRanked, impl.MaxRanked+1) {
			for _, place := range append(farNumbers(), -1, 0, 1, 600, impl.MaxFar, impl.MaxFar+1) {
				checkDivides(t, p, by, place, false)
			}
		}
	}
}

func TestPromise21RanksAreSharedByDivisors(t *testing.T) {
	for _, p := range allPairs() {
		for place := 1; place <= ranksAsked; place++ {
			for _, by := range impl.SameRanks(p, place) {
				if got := rankOf(t, p, by); got != place {
					t.Errorf("SameRanks(%v, %d) has %d, but its rank is %d", p, place, by, got)
				}
				if place <= impl.MaxIndex && firstAt(t, p, place)%by != 0 {
					t.Errorf("SameRanks(%v, %d) has %d, which does not divide %d", p, place, by, firstAt(t, p, place))
				}
			}
		}
	}
}

func TestPromise21AllOfARankAreListedInOrder(t *testing.T) {
	for p, ranks := range allRanks() {
		for place := 1; place <= ranksAsked; place++ {
			var want []int
			for by := 1; by <= alike; by++ {
				if ranks[by] == place {
					want = append(want, by)
				}
			}
			checkSame(t, p, place, want)
		}
	}
}

// The numbers here were made apart from the program: both ends of the places, 20 and the one behind, and places that no number has as its rank.
func TestPromise21KnownNumbersOfARank(t *testing.T) {
	known := []struct {
		pair  impl.Pair
		place int
		want  []int
	}{
		{fibonacci, 1, []int{1}}, {fibonacci, 2, nil}, {fibonacci, 3, []int{2}}, {fibonacci, 12, []int{6, 9, 12, 16, 18, 24, 36, 48, 72}},
		{fibonacci, 20, []int{15, 33, 41}}, {fibonacci, 21, []int{26}}, {fibonacci, 30, []int{20, 22, 31, 40, 44, 62, 88}},
		{fibonacci, 60, []int{30, 45, 60, 66, 80, 82, 90, 93, 99}}, {fibonacci, 100, []int{75}}, {fibonacci, 150, []int{100}},
		{fibonacci, 199, nil}, {fibonacci, 200, nil},
		{impl.Pair{P: 3, Q: 2}, 20, []int{25, 41, 55, 75}}, {impl.Pair{P: 3, Q: 2}, 21, []int{49}}, {impl.Pair{P: 3, Q: 2}, 2, []int{3}},
		{impl.Pair{P: 4, Q: -4}, 20, []int{19, 57, 59, 87}}, {impl.Pair{P: -4, Q: -4}, 21, []int{65}}, {impl.Pair{P: -4, Q: 4}, 21, []int{21}},
		{impl.Pair{P: -4, Q: 4}, 20, nil}, {impl.Pair{P: -4, Q: -4}, 60, []int{75, 93, 95}},
		{impl.Pair{P: -3, Q: 1}, 12, []int{14, 23, 28, 32, 42, 46, 56, 63, 69, 84, 92, 96}}, {impl.Pair{P: 4, Q: 3}, 20, []int{25, 50, 55, 88, 100}},
		{impl.Pair{Q: 1}, 1, []int{1}}, {impl.Pair{Q: 1}, 2, upTo(2, 100)}, {impl.Pair{Q: 1}, 4, nil}, {impl.Pair{P: 1, Q: 1}, 3, upTo(2, 100)},
		{impl.Pair{P: 2, Q: 1}, 100, []int{100}}, {impl.Pair{P: 2, Q: 1}, 101, nil}, {impl.Pair{P: 2, Q: 1}, 200, nil},
		{impl.Pair{P: 3, Q: 3}, 3, []int{2}}, {impl.Pair{P: 3, Q: 3}, 1, []int{1}},
	}
	for _, k := range known {
		checkSame(t, k.pair, k.place, k.want)
	}
}

// Each number with a rank is listed just once, and none is listed for Q 0.
func TestPromise21EachNumberIsListedOnce(t *testing.T) {
	for p, ranks := range allRanks() {
		times := map[int]int{}
		for place := 1; place <= ranksAsked; place++ {
			for _, by := range impl.SameRanks(p, place) {
				times[by]++
			}
		}
		for by := 1; by <= alike; by++ {
			want := 0
			if ranks[by] != 0 {
				want = 1
			}
			if times[by] != want {
				t.Errorf("%d is listed %d times for %v", by, times[by], p)
			}
			delete(times, by)
		}
		if len(times) != 0 {
			t.Errorf("for %v are listed, too: %v", p, times)
		}
	}
}

func TestPromise21ListsAreNewMemory(t *testing.T) {
	checkNewMemory(t, "SameRanks", func() []int { return impl.SameRanks(fibonacci, 12) })
	checkNewMemory(t, "SameRanks", func() []int { return impl.SameRanks(impl.Pair{Q: 1}, 2) })
	checkNewMemory(t, "SameRanks", func() []int { return impl.SameRanks(impl.Pair{P: 2, Q: 1}, 100) })
}

func TestPromise21AnythingElseIsNoRank(t *testing.T) {
	for _, p := range allPairs() {
		for _, place := range outside(1, ranksAsked) {
			checkSame(t, p, place, nil)
		}
	}
	for _, p := range badPairs() {
		for _, place := range append(farNumbers(), -1, 0, 1, 2, 3, 12, ranksAsked, ranksAsked+1) {
			checkSame(t, p, place, nil)
		}
	}
}

// underNumbers has small numbers, and great ones with many divisors, with few, and beside the end.
func underNumbers() []int {
	return append(upTo(1, 130), 1024, 5040, 9973, 65536, 66666, 99999, 100000, 102102, 131072, 170170, 180180, 196560, 199933, 199967, 199998, 199999, 200000)
}

func TestPromise22LeastMultiplesAreMultiples(t *testing.T) {
	for _, a := range underNumbers() {
		for _, b := range underNumbers() {
			least := impl.LeastOver(a, b)
			if least < 1 || least%a != 0 || least%b != 0 {
				t.Fatalf("LeastOver(%d, %d) is %d", a, b, least)
			}
			shared := greatestCommon(a, b)
			if least*shared != a*b || a%shared != 0 || b%shared != 0 {
				t.Errorf("LeastOver(%d, %d) is %d, and their greatest common divisor %d", a, b, least, shared)
			}
		}
	}
}

// The multiples are tried one by one here.
func TestPromise22NoLesserNumberIsDivided(t *testing.T) {
	for a := 1; a <= 130; a++ {
		for b := 1; b <= 130; b++ {
			want := a
			for want%b != 0 {
				want += a
			}
			checkLeast(t, a, b, want)
		}
	}
}

// The numbers here were made apart from the program.
func TestPromise22KnownMultiples(t *testing.T) {
	known := []struct{ a, b, want int }{
		{1, 1, 1}, {1, 200000, 200000}, {200000, 200000, 200000}, {199999, 199999, 199999}, {199999, 1, 199999},
		{200000, 199999, 39999800000}, {199999, 199998, 39999400002}, {199998, 200000, 19999800000}, {199933, 199967, 39980002211},
		{12, 18, 36}, {7, 49, 49}, {49, 7, 49}, {65536, 131072, 131072}, {131072, 200000, 409600000},
		{99999, 66666, 199998}, {170170, 102102, 510510}, {180180, 196560, 2162160}, {100000, 200000, 200000},
	}
	for _, k := range known {
		checkLeast(t, k.a, k.b, k.want)
		checkLeast(t, k.b, k.a, k.want)
	}
}

func TestPromise22AnythingElseHasNoLeastMultiple(t *testing.T) {
	bad := append(outside(1, underAtMost), 200001, 200002, 400000, -200000, -200001, -12)
	for _, out := range bad {
		for _, in := range []int{1, 2, 12, 199999, underAtMost} {
			checkLeast(t, out, in, -1)
			checkLeast(t, in, out, -1)
		}
		for _, other := range bad {
			checkLeast(t, out, other, -1)
		}
	}
}
