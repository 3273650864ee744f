package tests

import (
	"fmt"
	"testing"

	"loop.example/lucaspairs/impl"
)

// greatestPeriod is the greatest period of all, which 389 has for -2 and 3.
const greatestPeriod = 151320

// periodByRow is the period as the row tells it, number by number and apart from the program; 0 for numbers without a rank.
func periodByRow(p impl.Pair, by int) int {
	if p.Q == 0 || sharing(by, p.Q) {
		return 0
	}
	one := remainder(1, by)
	now, next := one, remainder(p.P, by)
	for place := 1; place <= greatestPeriod; place++ {
		if now == 0 && next == one {
			return place
		}
		now, next = next, remainder(p.P*next-p.Q*now, by)
	}
	panic(fmt.Sprint("no period of ", by, " for ", p))
}

// eachRanked calls for each pair and each number with a rank, which is told apart from the program.
func eachRanked(call func(p impl.Pair, by, rank int)) {
	for p, ranks := range allRanks() {
		for by := 1; by <= impl.MaxRanked; by++ {
			if ranks[by] != 0 {
				call(p, by, ranks[by])
			}
		}
	}
}

func periodOf(t *testing.T, p impl.Pair, by int) int {
	t.Helper()
	return rankedAs(t, "PeriodOf", p, by, impl.PeriodOf)
}

func loopsOf(t *testing.T, p impl.Pair, by int) int {
	t.Helper()
	return rankedAs(t, "LoopsOf", p, by, impl.LoopsOf)
}

func stepOf(t *testing.T, p impl.Pair, by int) int {
	t.Helper()
	return rankedAs(t, "StepOf", p, by, impl.StepOf)
}

func checkRanked(t *testing.T, name string, p impl.Pair, by, got, want int) {
	t.Helper()
	if got != want {
		t.Errorf("%s(%v, %d) is %d, not %d", name, p, by, got, want)
	}
}

// checkOnlyRanked holds that of numbers up to MaxRanked those that have a rank are told, and no others: for Q 0 not even 1.
func checkOnlyRanked(t *testing.T, name string, of func(impl.Pair, int) (int, bool)) {
	t.Helper()
	for _, p := range allPairs() {
		for by := 1; by <= impl.MaxRanked; by++ {
			if p.Q == 0 || greatestCommon(by, max(p.Q, -p.Q)) != 1 {
				checkNotRanked(t, name, p, []int{by}, of)
			} else if got := rankedAs(t, name, p, by, of); got < 0 {
				t.Errorf("%s(%v, %d) is %d", name, p, by, got)
			}
		}
	}
	checkNotRanked(t, name, impl.Pair{}, upTo(1, impl.MaxRanked), of)
	checkNotRanked(t, name, impl.Pair{P: 1}, upTo(1, impl.MaxRanked), of)
	checkNotRanked(t, name, impl.Pair{P: 2, Q: 2}, []int{2, 4, 6, 398, 400}, of)
	checkNotRanked(t, name, impl.Pair{P: 1, Q: -4}, []int{2, 4, 6, 398, 400}, of)
	checkNotRanked(t, name, impl.Pair{P: 3, Q: -3}, []int{3, 6, 9, 396, 399}, of)
}

// checkKnownRanked compares with numbers that were made apart from the program: both ends, powers, primes and products.
func checkKnownRanked(t *testing.T, name string, known map[impl.Pair][16]int, of func(impl.Pair, int) (int, bool)) {
	t.Helper()
	numbers := [16]int{1, 2, 3, 5, 7, 9, 10, 13, 100, 128, 243, 343, 389, 397, 399, 400}
	for p, row := range known {
		for i, want := range row {
			if want == -1 {
				checkNotRanked(t, name, p, []int{numbers[i]}, of)
				continue
			}
			checkRanked(t, name, p, numbers[i], rankedAs(t, name, p, numbers[i], of), want)
		}
	}
}

func TestPromise23PeriodsAreTheFirstPlaces(t *testing.T) {
	greatest := 0
	eachRanked(func(p impl.Pair, by, _ int) {
		period := periodOf(t, p, by)
		checkRanked(t, "PeriodOf", p, by, period, periodByRow(p, by))
		greatest = max(greatest, period)
	})
	if greatest != greatestPeriod {
		t.Errorf("the greatest period is %d", greatest)
	}
}

func TestPromise23WhatIsLeftComesAgain(t *testing.T) {
	eachRanked(func(p impl.Pair, by, _ int) {
		period := periodOf(t, p, by)
		for place := 0; place <= 12; place++ {
			checkLeft(t, "FarFirst", p, place+period, by, impl.FarFirst(p, place+period, by), impl.FarFirst(p, place, by))
		}
		farthest := impl.MaxFar - period
		checkLeft(t, "FarFirst", p, impl.MaxFar, by, impl.FarFirst(p, impl.MaxFar, by), impl.FarFirst(p, farthest, by))
	})
}

// FarFirst tells here that both numbers are not back at any lesser place.
func TestPromise23NothingComesAgainBefore(t *testing.T) {
	numbers := []int{1, 2, 3, 5, 7, 10, 12, 25, 49, 64, 100}
	for p, ranks := range allRanks() {
		for _, by := range numbers {
			if ranks[by] == 0 {
				continue
			}
			period := periodOf(t, p, by)
			for place := 1; place <= period; place++ {
				back := impl.FarFirst(p, place, by) == 0 && impl.FarFirst(p, place+1, by) == remainder(1, by)
				if back != (place == period) {
					t.Errorf("the period of %d for %v is %d, but both numbers are back at %d: %v", by, p, period, place, back)
				}
			}
		}
	}
}

func TestPromise23RanksDividePeriods(t *testing.T) {
	eachRanked(func(p impl.Pair, by, rank int) {
		if period := periodOf(t, p, by); period%rank != 0 || period%rankOf(t, p, by) != 0 {
			t.Errorf("for %v the rank of %d is %d, but the period %d", p, by, rank, period)
		}
	})
}

func TestPromise23PeriodsOfNumbersThatAreApart(t *testing.T) {
	for p, ranks := range allRanks() {
		for a := 1; a <= impl.MaxRanked; a++ {
			for b := a; a*b <= impl.MaxRanked; b++ {
				if ranks[a] == 0 || ranks[b] == 0 || greatestCommon(a, b) != 1 {
					continue
				}
				want := impl.LeastOver(periodOf(t, p, a), periodOf(t, p, b))
				checkRanked(t, "PeriodOf", p, a*b, periodOf(t, p, a*b), want)
			}
		}
	}
}

// The numbers here were made apart from the program.
func TestPromise23KnownPeriods(t *testing.T) {
	checkKnownRanked(t, "PeriodOf", map[impl.Pair][16]int{
		{P: 1, Q: -1}:  {1, 3, 8, 20, 16, 24, 60, 28, 300, 192, 648, 784, 388, 796, 144, 600},
		{P: -1, Q: -1}: {1, 3, 8, 20, 16, 24, 60, 28, 300, 192, 648, 784, 388, 796, 144, 600},
		{P: 3, Q: 2}:   {1, -1, 2, 4, 3, 6, -1, 12, -1, -1, 162, 147, 388, 44, 18, -1},
		{P: 4, Q: -4}:  {1, -1, 8, 3, 6, 24, -1, 21, -1, -1, 648, 294, 3783, 2189, 360, -1},
		{P: -4, Q: -4}: {1, -1, 8, 6, 6, 24, -1, 42, -1, -1, 648, 294, 7566, 4378, 360, -1},
		{P: 4, Q: 4}:   {1, -1, 6, 20, 21, 18, -1, 156, -1, -1, 486, 1029, 150932, 17468, 2394, -1},
		{P: -4, Q: 4}:  {1, -1, 3, 20, 42, 9, -1, 156, -1, -1, 243, 2058, 150932, 17468, 2394, -1},
		{Q: 1}:         {1, 2, 4, 4, 4, 4, 4, 4, 4, 4, 4, 4, 4, 4, 4, 4},
		{Q: -1}:        {1, 2, 2, 2, 2, 2, 2, 2, 2, 2, 2, 2, 2, 2, 2, 2},
		{Q: 4}:         {1, -1, 4, 2, 12, 12, -1, 6, -1, -1, 324, 588, 194, 22, 36, -1},
		{Q: -3}:        {1, 2, -1, 8, 12, -1, 8, 6, 40, 64, -1, 588, 776, 396, -1, 40},
		{P: 1, Q: 1}:   {1, 3, 6, 6, 6, 6, 6, 6, 6, 6, 6, 6, 6, 6, 6, 6},
		{P: 2, Q: 2}:   {1, -1, 8, 4, 24, 24, -1, 12, -1, -1, 648, 1176, 388, 44, 72, -1},
		{P: 3, Q: 3}:   {1, 3, -1, 24, 6, -1, 24, 12, 120, 192, -1, 294, 2328, 198, -1, 120},
		{P: 2, Q: -1}:  {1, 2, 8, 12, 6, 24, 12, 28, 60, 128, 648, 294, 156, 796, 120, 240},
		{P: -3, Q: 1}:  {1, 3, 4, 5, 8, 12, 15, 7, 150, 96, 324, 392, 97, 199, 72, 300},
		{P: 2, Q: 1}:   {1, 2, 3, 5, 7, 9, 10, 13, 100, 128, 243, 343, 389, 397, 399, 400},
		{P: 4, Q: 1}:   {1, 2, 6, 3, 8, 18, 6, 12, 60, 64, 486, 392, 65, 396, 120, 120},
		{P: -4, Q: 3}:  {1, 2, -1, 4, 6, -1, 4, 6, 20, 64, -1, 294, 388, 198, -1, 40},
		{P: 3, Q: -4}:  {1, -1, 2, 10, 6, 6, -1, 6, -1, -1, 162, 294, 194, 22, 18, -1},
		{P: -2, Q: 3}:  {1, 2, -1, 24, 48, -1, 24, 21, 120, 128, -1, 2352, 151320, 78804, -1, 240},
	}, impl.PeriodOf)
}

// Divided by 1 all leaves 0, so that what is left comes again at once; divided by 2 it is 0 and 1 in turn for even P, and else 0, 1 and 1.
func TestPromise23OneAndTwo(t *testing.T) {
	for _, p := range allPairs() {
		if p.Q != 0 {
			checkRanked(t, "PeriodOf", p, 1, periodOf(t, p, 1), 1)
		}
		if p.Q%2 != 0 {
			checkRanked(t, "PeriodOf", p, 2, periodOf(t, p, 2), 2+remainder(p.P, 2))
		}
	}
}

func TestPromise23OnlyNumbersWithARankHaveAPeriod(t *testing.T) {
	checkOnlyRanked(t, "PeriodOf", impl.PeriodOf)
}

func TestPromise23AnythingElseHasNoPeriod(t *testing.T) {
	checkNothingRanked(t, "PeriodOf", impl.PeriodOf)
}

func TestPromise24LoopsAreTheOrderOfAStep(t *testing.T) {
	eachRanked(func(p impl.Pair, by, _ int) {
		loops, step := loopsOf(t, p, by), stepOf(t, p, by)
		if loops < 1 {
			t.Fatalf("LoopsOf(%v, %d) is %d", p, by, loops)
		}
		for times := 1; times <= loops; times++ {
			if left := impl.PowerLeft(step, times, by); (left == remainder(1, by)) != (times == loops) {
				t.Errorf("LoopsOf(%v, %d) is %d, but the step %d to the power of %d leaves %d", p, by, loops, step, times, left)
			}
		}
	})
}

func TestPromise24RanksGoIntoPeriods(t *testing.T) {
	eachRanked(func(p impl.Pair, by, rank int) {
		loops := loopsOf(t, p, by)
		checkRanked(t, "LoopsOf", p, by, loops, periodByRow(p, by)/rank)
		checkRanked(t, "PeriodOf", p, by, periodOf(t, p, by), loops*rankOf(t, p, by))
	})
}

func TestPromise24LoopsAreFewForOneAndMinusOne(t *testing.T) {
	seen := map[int]bool{}
	eachRanked(func(p impl.Pair, by, _ int) {
		if p.Q != 1 && p.Q != -1 {
			return
		}
		loops := loopsOf(t, p, by)
		if loops != 1 && loops != 2 && loops != 4 {
			t.Errorf("LoopsOf(%v, %d) is %d", p, by, loops)
		}
		seen[loops] = true
	})
	if len(seen) != 3 {
		t.Errorf("for Q 1 and -1 only these loops are seen: %v", seen)
	}
}

// The numbers here were made apart from the program.
func TestPromise24KnownLoops(t *testing.T) {
	checkKnownRanked(t, "LoopsOf", map[impl.Pair][16]int{
		{P: 1, Q: -1}:  {1, 1, 2, 4, 2, 2, 4, 4, 2, 2, 2, 2, 4, 4, 2, 2},
		{P: -1, Q: -1}: {1, 1, 2, 4, 2, 2, 4, 4, 2, 2, 2, 2, 4, 4, 2, 2},
		{P: 3, Q: 2}:   {1, -1, 1, 1, 1, 1, -1, 1, -1, -1, 1, 1, 1, 1, 1, -1},
		{P: 4, Q: -4}:  {1, -1, 2, 1, 1, 2, -1, 3, -1, -1, 2, 1, 97, 11, 6, -1},
		{P: -4, Q: -4}: {1, -1, 2, 2, 1, 2, -1, 6, -1, -1, 2, 1, 194, 22, 6, -1},
		{P: 4, Q: 4}:   {1, -1, 2, 4, 3, 2, -1, 12, -1, -1, 2, 3, 388, 44, 6, -1},
		{P: -4, Q: 4}:  {1, -1, 1, 4, 6, 1, -1, 12, -1, -1, 1, 6, 388, 44, 6, -1},
		{Q: 1}:         {1, 1, 2, 2, 2, 2, 2, 2, 2, 2, 2, 2, 2, 2, 2, 2},
		{Q: -1}:        {1, 1, 1, 1, 1, 1, 1, 1, 1, 1, 1, 1, 1, 1, 1, 1},
		{Q: 4}:         {1, -1, 2, 1, 6, 6, -1, 3, -1, -1, 162, 294, 97, 11, 18, -1},
		{Q: -3}:        {1, 1, -1, 4, 6, -1, 4, 3, 20, 32, -1, 294, 388, 198, -1, 20},
		{P: 1, Q: 1}:   {1, 1, 2, 2, 2, 2, 2, 2, 2, 2, 2, 2, 2, 2, 2, 2},
		{P: 3, Q: 3}:   {1, 1, -1, 4, 1, -1, 4, 2, 20, 32, -1, 49, 388, 33, -1, 20},
		{P: 2, Q: -1}:  {1, 1, 2, 4, 1, 2, 2, 4, 1, 1, 2, 1, 4, 4, 2, 1},
		{P: -3, Q: 1}:  {1, 1, 2, 1, 2, 2, 1, 1, 2, 2, 2, 2, 1, 1, 2, 2},
		{P: 2, Q: 1}:   {1, 1, 1, 1, 1, 1, 1, 1, 1, 1, 1, 1, 1, 1, 1, 1},
		{P: -4, Q: 3}:  {1, 1, -1, 1, 1, -1, 1, 2, 1, 1, -1, 1, 1, 1, -1, 1},
		{P: 3, Q: -4}:  {1, -1, 1, 2, 1, 1, -1, 2, -1, -1, 1, 1, 2, 2, 1, -1},
		{P: -2, Q: 3}:  {1, 1, -1, 4, 6, -1, 4, 3, 2, 1, -1, 6, 388, 396, -1, 1},
	}, impl.LoopsOf)
}

func TestPromise24OnlyNumbersWithARankHaveLoops(t *testing.T) {
	checkOnlyRanked(t, "LoopsOf", impl.LoopsOf)
}

func TestPromise24AnythingElseHasNoLoops(t *testing.T) {
	checkNothingRanked(t, "LoopsOf", impl.LoopsOf)
}

func TestPromise25StepsSquareToPowers(t *testing.T) {
	eachRanked(func(p impl.Pair, by, rank int) {
		step := stepOf(t, p, by)
		if square, want := step*step%by, impl.PowerLeft(p.Q, rankOf(t, p, by), by); square != want {
			t.Errorf("StepOf(%v, %d) is %d, of which the square leaves %d, not %d", p, by, step, square, want)
		}
		if step < 0 || step >= by || greatestCommon(step, by) != 1 {
			t.Errorf("StepOf(%v, %d) is %d", p, by, step)
		}
		checkRanked(t, "StepOf", p, by, step, impl.FarFirst(p, rank+1, by))
	})
}

// Squares hide a sign, which is told here: what is left at each place, times the step, is what is left when one goes on by the rank.
func TestPromise25AllWhatIsLeftIsMultipliedByTheStep(t *testing.T) {
	eachRanked(func(p impl.Pair, by, rank int) {
		step := stepOf(t, p, by)
		for place := 0; place <= 12; place++ {
			want := impl.FarFirst(p, place, by) * step % by
			checkLeft(t, "FarFirst", p, place+rank, by, impl.FarFirst(p, place+rank, by), want)
		}
	})
}

// The numbers here were made apart from the program.
func TestPromise25KnownSteps(t *testing.T) {
	checkKnownRanked(t, "StepOf", map[impl.Pair][16]int{
		{P: 1, Q: -1}:  {0, 1, 2, 3, 6, 8, 7, 8, 49, 65, 242, 342, 115, 63, 286, 201},
		{P: -1, Q: -1}: {0, 1, 2, 2, 6, 8, 3, 5, 49, 65, 242, 342, 274, 334, 286, 201},
		{P: 3, Q: 2}:   {0, -1, 1, 1, 1, 1, -1, 1, -1, -1, 1, 1, 1, 1, 1, -1},
		{P: 4, Q: -4}:  {0, -1, 2, 1, 1, 8, -1, 3, -1, -1, 242, 1, 361, 126, 50, -1},
		{P: -4, Q: -4}: {0, -1, 2, 4, 1, 8, -1, 10, -1, -1, 242, 1, 28, 271, 50, -1},
		{P: 4, Q: 4}:   {0, -1, 2, 2, 2, 8, -1, 2, -1, -1, 242, 324, 2, 2, 8, -1},
		{P: -4, Q: 4}:  {0, -1, 1, 3, 5, 1, -1, 11, -1, -1, 1, 19, 387, 395, 391, -1},
		{Q: 1}:         {0, 1, 2, 4, 6, 8, 9, 12, 99, 127, 242, 342, 388, 396, 398, 399},
		{Q: -1}:        {0, 1, 1, 1, 1, 1, 1, 1, 1, 1, 1, 1, 1, 1, 1, 1},
		{Q: 4}:         {0, -1, 2, 1, 3, 5, -1, 9, -1, -1, 239, 339, 385, 393, 395, -1},
		{Q: -3}:        {0, 1, -1, 3, 3, -1, 3, 3, 3, 3, -1, 3, 3, 3, -1, 3},
		{P: 3, Q: 3}:   {0, 1, -1, 3, 1, -1, 3, 12, 73, 101, -1, 316, 362, 370, -1, 373},
		{P: 2, Q: -1}:  {0, 1, 2, 2, 1, 8, 9, 5, 1, 1, 242, 1, 115, 334, 113, 1},
		{P: -3, Q: 1}:  {0, 1, 2, 1, 6, 8, 1, 1, 51, 65, 242, 342, 1, 1, 286, 201},
		{P: 2, Q: 1}:   {0, 1, 1, 1, 1, 1, 1, 1, 1, 1, 1, 1, 1, 1, 1, 1},
		{P: 4, Q: 1}:   {0, 1, 2, 1, 6, 8, 1, 12, 51, 1, 242, 342, 1, 396, 286, 1},
		{P: 3, Q: -4}:  {0, -1, 1, 4, 1, 1, -1, 12, -1, -1, 1, 1, 388, 396, 1, -1},
		{P: -2, Q: 3}:  {0, 1, -1, 3, 3, -1, 3, 9, 49, 1, -1, 325, 3, 377, -1, 1},
	}, impl.StepOf)
}

func TestPromise25OnlyNumbersWithARankHaveAStep(t *testing.T) {
	checkOnlyRanked(t, "StepOf", impl.StepOf)
}

func TestPromise25AnythingElseHasNoStep(t *testing.T) {
	checkNothingRanked(t, "StepOf", impl.StepOf)
}

// checkShifted holds promise 26 at a place, by a number with a rank.
func checkShifted(t *testing.T, p impl.Pair, place, by int) {
	t.Helper()
	checkLeft(t, "ShiftedOf", p, place, by, impl.ShiftedOf(p, place, by), impl.FarFirst(p, place, by))
}

func TestPromise26FarOnByRanks(t *testing.T) {
	numbers := append(upTo(1, 20), 64, 97, 100, 128, 210, 243, 343, 377, 389, 390, 397, 399, 400)
	for p, ranks := range allRanks() {
		for _, by := range numbers {
			if ranks[by] == 0 {
				continue
			}
			for _, place := range placesBeside(ranks[by]) {
				checkShifted(t, p, place, by)
			}
		}
	}
}

func TestPromise26BothEndsAndBesideTheRank(t *testing.T) {
	eachRanked(func(p impl.Pair, by, rank int) {
		for _, place := range []int{0, 1, 2, rank - 1, rank, rank + 1, 2*rank - 1, 2 * rank, 2*rank + 1, impl.MaxFar - 1, impl.MaxFar} {
			checkShifted(t, p, place, by)
		}
	})
}

// The row is gone through here apart from the program, from 0 on and behind the rank.
func TestPromise26PlacesSmallerThanTheRank(t *testing.T) {
	for p, ranks := range allRanks() {
		for _, by := range []int{1, 2, 5, 9, 49, 100, 350, 397, 399, 400} {
			now, next := 0, remainder(1, by)
			for place := 0; ranks[by] != 0 && place <= ranks[by]+2; place++ {
				checkLeft(t, "ShiftedOf", p, place, by, impl.ShiftedOf(p, place, by), now)
				now, next = next, remainder(p.P*next-p.Q*now, by)
			}
		}
	}
}

// The numbers here were made apart from the program, by powers of a matrix.
func TestPromise26KnownPlaces(t *testing.T) {
	known := []struct {
		pair            impl.Pair
		place, by, want int
	}{
		{fibonacci, 0, 400, 0}, {fibonacci, 1, 400, 1}, {fibonacci, 1000, 400, 75}, {fibonacci, 123456789, 400, 114}, {fibonacci, 1000000000, 400, 75},
		{fibonacci, 1000, 97, 72}, {fibonacci, 123456789, 97, 69}, {fibonacci, 999999999, 97, 64}, {fibonacci, 1000000000, 97, 82},
		{fibonacci, 1000000000, 7, 0}, {fibonacci, 999999999, 7, 1}, {fibonacci, 1000000000, 2, 1}, {fibonacci, 999999999, 2, 0}, {fibonacci, 1000000000, 1, 0}, {fibonacci, 1, 1, 0},
		{impl.Pair{P: 4, Q: -4}, 123456789, 397, 4}, {impl.Pair{P: 4, Q: -4}, 999999999, 397, 160}, {impl.Pair{P: 4, Q: -4}, 1000000000, 389, 268},
		{impl.Pair{P: -4, Q: 3}, 1000, 400, 0}, {impl.Pair{P: -4, Q: 3}, 999999999, 400, 133}, {impl.Pair{P: -4, Q: 3}, 123456789, 389, 81},
		{impl.Pair{P: -2, Q: 3}, 1000, 389, 240}, {impl.Pair{P: -2, Q: 3}, 123456789, 389, 365}, {impl.Pair{P: -2, Q: 3}, 999999999, 389, 386}, {impl.Pair{P: -2, Q: 3}, 1000000000, 400, 96},
		{impl.Pair{Q: 1}, 999999999, 400, 399}, {impl.Pair{Q: 1}, 123456789, 400, 1}, {impl.Pair{Q: 1}, 1000000000, 400, 0}, {impl.Pair{Q: -1}, 999999999, 7, 1}, {impl.Pair{Q: -1}, 1000000000, 7, 0},
	}
	for _, k := range known {
		checkLeft(t, "ShiftedOf", k.pair, k.place, k.by, impl.ShiftedOf(k.pair, k.place, k.by), k.want)
	}
}

// FarFirst tells of these numbers all the same.
func TestPromise26NumbersWithoutARankAreNotShifted(t *testing.T) {
	places := []int{0, 1, 2, 600, impl.MaxFar}
	for p, ranks := range allRanks() {
		for by := 1; by <= impl.MaxRanked; by++ {
			if ranks[by] == 0 {
				checkNotLeft(t, "ShiftedOf", p, places, []int{by}, impl.ShiftedOf)
			}
		}
	}
	checkNotLeft(t, "ShiftedOf", impl.Pair{}, places, upTo(1, impl.MaxRanked), impl.ShiftedOf)
	checkNotLeft(t, "ShiftedOf", impl.Pair{P: 2, Q: 4}, places, []int{2, 4, 400}, impl.ShiftedOf)
}

func TestPromise26AnythingElseIsNotShifted(t *testing.T) {
	badPlaces := append(outside(0, impl.MaxFar), -8, -impl.MaxFar, impl.MaxFar+8, 2*impl.MaxFar)
	badNumbers := append(outside(1, impl.MaxRanked), -impl.MaxRanked, -7, 401, 403, 997, impl.MaxBy)
	for _, p := range allPairs() {
		checkNotLeft(t, "ShiftedOf", p, badPlaces, []int{1, 5, 7, 399, impl.MaxRanked}, impl.ShiftedOf)
		checkNotLeft(t, "ShiftedOf", p, []int{0, 1, 600, impl.MaxFar}, badNumbers, impl.ShiftedOf)
	}
	checkNotLeft(t, "ShiftedOf", fibonacci, badPlaces, badNumbers, impl.ShiftedOf)
	places := append(farNumbers(), -1, 0, 1, 600, impl.MaxFar, impl.MaxFar+1)
	for _, p := range badPairs() {
		checkNotLeft(t, "ShiftedOf", p, places, append(farNumbers(), -1, 0, 1, 7, impl.MaxRanked, impl.MaxRanked+1), impl.ShiftedOf)
	}
}
