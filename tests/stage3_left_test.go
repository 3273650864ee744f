package tests

import (
	"math/big"
	"slices"
	"testing"

	"loop.example/lucaspairs/impl"
)

// listed is the greatest place up to which RowLeft lists.
const listed = 200

// divisors has numbers by which is divided: both ends, even ones, powers, primes and products.
func divisors() []int {
	return []int{1, 2, 3, 4, 5, 7, 8, 10, 12, 97, 256, 625, 1000, 4096, 9973, 9998, 9999, 10000}
}

// farPlaces has places up to MaxFar, with powers of 2 and what is beside them, where the bits change.
func farPlaces() []int {
	places := append(upTo(0, 40), 199, 200, 201, 1000, 65536, 123456789, 444444444, 987654321)
	for bit := 6; bit < 30; bit++ {
		places = append(places, 1<<bit-1, 1<<bit, 1<<bit+1)
	}
	half := impl.MaxFar / 2
	places = append(places, half-1, half, half+1)
	return append(places, upTo(impl.MaxFar-9, impl.MaxFar)...)
}

// bases has numbers of which powers are made: all small ones, and both ends.
func bases() []int {
	numbers := upTo(-50, 50)
	return append(numbers, -10000, -9999, -9973, -5000, -256, 256, 5000, 9973, 9999, 10000)
}

// wholeRow has the numbers of a row from the place 0 up to a place, as they are, however great.
func wholeRow(p impl.Pair, first, second int64, last int) []*big.Int {
	row := []*big.Int{big.NewInt(first), big.NewInt(second)}
	for place := 2; place <= last; place++ {
		next := new(big.Int).Mul(big.NewInt(int64(p.P)), row[place-1])
		row = append(row, next.Sub(next, new(big.Int).Mul(big.NewInt(int64(p.Q)), row[place-2])))
	}
	return row[:last+1]
}

// wholeRemainder is what is left of n divided by by, from 0 on.
func wholeRemainder(n *big.Int, by int) int {
	return int(new(big.Int).Mod(n, big.NewInt(int64(by))).Int64())
}

func checkLeft(t *testing.T, name string, p impl.Pair, place, by, got, want int) {
	t.Helper()
	if got != want {
		t.Errorf("%s(%v, %d, %d) is %d, not %d", name, p, place, by, got, want)
	}
}

// checkNotLeft holds that a row far on is not told for such places and numbers by which is divided.
func checkNotLeft(t *testing.T, name string, p impl.Pair, places, numbers []int, of func(impl.Pair, int, int) int) {
	t.Helper()
	for _, place := range places {
		for _, by := range numbers {
			checkLeft(t, name, p, place, by, of(p, place, by), -1)
		}
	}
}

// checkNothingFar asks a row far on for pairs, places and numbers by which is divided that are not valid, one by one and together.
func checkNothingFar(t *testing.T, name string, of func(impl.Pair, int, int) int) {
	t.Helper()
	badPlaces, badNumbers := outside(0, impl.MaxFar), outside(1, impl.MaxBy)
	for _, p := range allPairs() {
		checkNotLeft(t, name, p, badPlaces, []int{1, 2, impl.MaxBy}, of)
		checkNotLeft(t, name, p, []int{0, 1, 100, impl.MaxFar}, badNumbers, of)
	}
	checkNotLeft(t, name, fibonacci, badPlaces, badNumbers, of)
	places := []int{-1, 0, 1, 7, impl.MaxFar, impl.MaxFar + 1}
	for _, p := range badPairs() {
		checkNotLeft(t, name, p, append(farNumbers(), places...), []int{-1, 0, 1, 10, impl.MaxBy, impl.MaxBy + 1}, of)
	}
}

func TestMaxByAndMaxFar(t *testing.T) {
	if impl.MaxBy != 10000 || impl.MaxFar != 1000000000 {
		t.Errorf("MaxBy is %d, and MaxFar %d", impl.MaxBy, impl.MaxFar)
	}
}

func TestPromise10BitsTellWhatIsLeft(t *testing.T) {
	for _, p := range allPairs() {
		row := wholeRow(p, 0, 1, listed)
		for _, by := range divisors() {
			for place, whole := range row {
				got := impl.FarFirst(p, place, by)
				checkLeft(t, "FarFirst", p, place, by, got, wholeRemainder(whole, by))
				checkLeft(t, "FarFirst", p, place, by, got, impl.RowLeft(p, place, by)[place])
			}
		}
	}
}

func TestPromise10FarPlacesAreAddedAsNearOnes(t *testing.T) {
	for _, p := range allPairs() {
		seventh, eighth := firstAt(t, p, 7), firstAt(t, p, 8)
		for _, by := range divisors() {
			for _, place := range farPlaces() {
				if place < 1 || place+7 > impl.MaxFar {
					continue
				}
				sum := impl.FarFirst(p, place, by)*eighth - p.Q*impl.FarFirst(p, place-1, by)*seventh
				checkLeft(t, "FarFirst", p, place+7, by, impl.FarFirst(p, place+7, by), remainder(sum, by))
			}
		}
	}
}

type leftFar struct {
	place, by int
}

func knownFar() [7]leftFar {
	return [7]leftFar{{100, 1000}, {99999999, 10000}, {536870911, 9973}, {536870912, 4096}, {1000000000, 10000}, {999999999, 9999}, {1000000000, 7}}
}

func checkKnownFar(t *testing.T, name string, rows map[impl.Pair][7]int, of func(impl.Pair, int, int) int) {
	t.Helper()
	for p, numbers := range rows {
		for i, want := range numbers {
			at := knownFar()[i]
			checkLeft(t, name, p, at.place, at.by, of(p, at.place, at.by), want)
		}
	}
}

// The numbers here were made apart from the program.
func TestPromise10KnownRowsFarOn(t *testing.T) {
	checkKnownFar(t, "FarFirst", map[impl.Pair][7]int{
		{P: 1, Q: -1}:  {75, 626, 3636, 3525, 6875, 6667, 0},
		{P: 2, Q: -1}:  {772, 5665, 3195, 0, 272, 9400, 5},
		{P: 3, Q: 2}:   {375, 4687, 6692, 4095, 9375, 8332, 1},
		{P: 4, Q: -4}:  {136, 3760, 5998, 0, 5136, 9016, 5},
		{P: -4, Q: -4}: {864, 3760, 5998, 0, 4864, 9016, 2},
		{P: 4, Q: 4}:   {800, 2656, 5560, 0, 0, 2502, 6},
		{P: -4, Q: 4}:  {200, 2656, 5560, 0, 0, 2502, 1},
		{}:             {0, 0, 0, 0, 0, 0, 0},
		{P: 3}:         {667, 8889, 3271, 2731, 6667, 9135, 6},
		{Q: 4}:         {0, 2656, 1640, 0, 0, 833, 0},
		{Q: -1}:        {0, 1, 1, 0, 0, 1, 0},
		{P: 1, Q: 1}:   {999, 0, 1, 1, 9999, 0, 6},
		{P: -3, Q: 1}:  {475, 5624, 3473, 3525, 6875, 9998, 0},
	}, impl.FarFirst)
}

func TestPromise10AnythingElseLeavesNothing(t *testing.T) {
	checkNothingFar(t, "FarFirst", impl.FarFirst)
}

func TestPromise11BothRowsFarOnBelongTogether(t *testing.T) {
	for _, p := range allPairs() {
		weight := weightOf(t, p)
		for _, by := range divisors() {
			for _, place := range farPlaces() {
				first, second := impl.FarFirst(p, place, by), impl.FarSecond(p, place, by)
				squares := remainder(second*second-weight*first*first, by)
				checkLeft(t, "4 times PowerLeft", p, place, by, remainder(4*impl.PowerLeft(p.Q, place, by), by), squares)
				if 2*place <= impl.MaxFar {
					checkLeft(t, "FarFirst", p, 2*place, by, impl.FarFirst(p, 2*place, by), remainder(first*second, by))
				}
			}
		}
	}
}

func TestPromise11TheSecondRowIsAsOneByOne(t *testing.T) {
	for _, p := range allPairs() {
		row := wholeRow(p, 2, int64(p.P), listed)
		for _, by := range divisors() {
			for place, whole := range row {
				checkLeft(t, "FarSecond", p, place, by, impl.FarSecond(p, place, by), wholeRemainder(whole, by))
			}
		}
	}
}

// Squares hide a sign, which is told here: the second row is twice what is behind in the first one, less P times the number there.
func TestPromise11TheSecondRowIsToldByTheFirst(t *testing.T) {
	for _, p := range allPairs() {
		for _, by := range divisors() {
			for _, place := range farPlaces() {
				if place == impl.MaxFar {
					continue
				}
				want := 2*impl.FarFirst(p, place+1, by) - p.P*impl.FarFirst(p, place, by)
				checkLeft(t, "FarSecond", p, place, by, impl.FarSecond(p, place, by), remainder(want, by))
			}
		}
	}
}

// The numbers here were made apart from the program.
func TestPromise11KnownRowsFarOn(t *testing.T) {
	checkKnownFar(t, "FarSecond", map[impl.Pair][7]int{
		{P: 1, Q: -1}:  {127, 3124, 4299, 4095, 8127, 6665, 2},
		{P: 2, Q: -1}:  {874, 9214, 1615, 2, 1874, 7312, 6},
		{P: 3, Q: 2}:   {377, 4689, 6694, 1, 9377, 8334, 3},
		{P: 4, Q: -4}:  {624, 5232, 8436, 0, 624, 6989, 5},
		{P: -4, Q: -4}: {624, 4768, 1537, 0, 624, 3010, 5},
		{P: 4, Q: 4}:   {752, 9376, 3413, 0, 8752, 6667, 4},
		{P: -4, Q: 4}:  {752, 624, 6560, 0, 8752, 3332, 4},
		{}:             {0, 0, 0, 0, 0, 0, 0},
		{P: 3}:         {1, 6667, 9813, 1, 1, 7407, 4},
		{Q: 4}:         {752, 0, 0, 0, 8752, 0, 4},
		{Q: -1}:        {2, 0, 0, 2, 2, 0, 2},
		{P: 1, Q: 1}:   {999, 9998, 1, 4095, 9999, 9997, 6},
		{P: -3, Q: 1}:  {127, 622, 8539, 4095, 8127, 3330, 2},
	}, impl.FarSecond)
}

func TestPromise11AnythingElseLeavesNothing(t *testing.T) {
	checkNothingFar(t, "FarSecond", impl.FarSecond)
}

func TestPromise12PowersGoOn(t *testing.T) {
	for _, a := range bases() {
		for _, by := range divisors() {
			for _, times := range farPlaces() {
				left := impl.PowerLeft(a, times, by)
				if left < 0 || left >= by {
					t.Errorf("PowerLeft(%d, %d, %d) is %d", a, times, by, left)
				}
				if times == impl.MaxFar {
					continue
				}
				if got, want := impl.PowerLeft(a, times+1, by), remainder(left*a, by); got != want {
					t.Errorf("PowerLeft(%d, %d, %d) is %d, not %d", a, times+1, by, got, want)
				}
			}
		}
	}
}

func TestPromise12SmallPowersAreWhatIsLeft(t *testing.T) {
	for a := -50; a <= 50; a++ {
		for times := 0; times <= 9; times++ {
			for _, by := range divisors() {
				if got, want := impl.PowerLeft(a, times, by), remainder(power(a, times), by); got != want {
					t.Errorf("PowerLeft(%d, %d, %d) is %d, not %d", a, times, by, got, want)
				}
			}
		}
	}
}

// The numbers here were made apart from the program.
func TestPromise12KnownPowers(t *testing.T) {
	known := []struct{ a, times, by, want int }{
		{2, 1000000000, 10000, 9376}, {2, 1000000000, 9973, 8876}, {-2, 999999999, 9973, 5535},
		{10000, 1000000000, 9999, 1}, {-10000, 999999999, 9999, 9998}, {10000, 1000000000, 10000, 0},
		{-10000, 1, 9999, 9998}, {9999, 999999999, 10000, 9999}, {-9999, 999999999, 10000, 1},
		{0, 0, 10000, 1}, {0, 0, 1, 0}, {0, 1, 10000, 0}, {0, 1000000000, 7, 0}, {-10000, 0, 9999, 1}, {10000, 0, 1, 0},
		{-1, 999999999, 3, 2}, {-1, 999999999, 2, 1}, {7, 13, 1, 0}, {-3, 3, 10, 3},
		{3, 536870911, 9973, 9813}, {9972, 9973, 9973, 9972}, {6, 999999999, 9991, 8655},
	}
	for _, k := range known {
		if got := impl.PowerLeft(k.a, k.times, k.by); got != k.want {
			t.Errorf("PowerLeft(%d, %d, %d) is %d, not %d", k.a, k.times, k.by, got, k.want)
		}
	}
}

func checkNoPower(t *testing.T, numbers, exponents, divisors []int) {
	t.Helper()
	for _, a := range numbers {
		for _, times := range exponents {
			for _, by := range divisors {
				if got := impl.PowerLeft(a, times, by); got != -1 {
					t.Errorf("PowerLeft(%d, %d, %d) is %d", a, times, by, got)
				}
			}
		}
	}
}

func TestPromise12AnythingElseHasNoPower(t *testing.T) {
	numbers := []int{-impl.MaxBy, -1, 0, 1, 2, impl.MaxBy}
	exponents := []int{0, 1, 30, impl.MaxFar}
	divided := []int{1, 2, 10, impl.MaxBy}
	badNumbers, badExponents, badDivisors := outside(-impl.MaxBy, impl.MaxBy), outside(0, impl.MaxFar), outside(1, impl.MaxBy)
	checkNoPower(t, badNumbers, exponents, divided)
	checkNoPower(t, numbers, badExponents, divided)
	checkNoPower(t, numbers, exponents, badDivisors)
	checkNoPower(t, badNumbers, badExponents, []int{7})
	checkNoPower(t, []int{2}, badExponents, badDivisors)
	checkNoPower(t, badNumbers, []int{3}, badDivisors)
	checkNoPower(t, farNumbers(), badExponents, farNumbers())
}

func TestPromise13WhatIsLeftGoesOn(t *testing.T) {
	for _, p := range allPairs() {
		for _, by := range divisors() {
			row := impl.RowLeft(p, listed, by)
			if len(row) != listed+1 {
				t.Fatalf("RowLeft(%v, %d, %d) has %d numbers", p, listed, by, len(row))
			}
			for place, got := range row {
				if place <= impl.MaxIndex {
					checkLeft(t, "RowLeft", p, place, by, got, remainder(firstAt(t, p, place), by))
				}
				if place >= 2 {
					checkLeft(t, "RowLeft", p, place, by, got, remainder(p.P*row[place-1]-p.Q*row[place-2], by))
				}
			}
		}
	}
}

func TestPromise13ShorterRowsBeginTheLongest(t *testing.T) {
	for _, p := range allPairs() {
		for _, by := range []int{1, 2, 10, impl.MaxBy} {
			longest := impl.RowLeft(p, listed, by)
			for place := range longest {
				if got := impl.RowLeft(p, place, by); !slices.Equal(got, longest[:place+1]) {
					t.Errorf("RowLeft(%v, %d, %d) is %v", p, place, by, got)
				}
			}
		}
	}
}

func TestPromise13KnownRows(t *testing.T) {
	known := []struct {
		pair      impl.Pair
		place, by int
		want      []int
	}{
		{fibonacci, 0, 5, []int{0}},
		{fibonacci, 0, 1, []int{0}},
		{fibonacci, 1, 1, []int{0, 0}},
		{fibonacci, 1, 10000, []int{0, 1}},
		{fibonacci, 7, 5, []int{0, 1, 1, 2, 3, 0, 3, 3}},
		{impl.Pair{P: -1, Q: -1}, 6, 10, []int{0, 1, 9, 2, 7, 5, 2}},
		{impl.Pair{P: -4, Q: 4}, 5, 10000, []int{0, 1, 9996, 12, 9968, 80}},
		{impl.Pair{P: 4, Q: -4}, 5, 7, []int{0, 1, 4, 6, 5, 2}},
		{impl.Pair{}, 3, 9, []int{0, 1, 0, 0}},
		{impl.Pair{P: 3}, 4, 10, []int{0, 1, 3, 9, 7}},
		{impl.Pair{Q: 4}, 5, 9, []int{0, 1, 0, 5, 0, 7}},
	}
	for _, k := range known {
		if got := impl.RowLeft(k.pair, k.place, k.by); !slices.Equal(got, k.want) {
			t.Errorf("RowLeft(%v, %d, %d) is %v, not %v", k.pair, k.place, k.by, got, k.want)
		}
	}
}

// What one asker does with a row, behind its end too, is not seen by another one.
func TestPromise13RowsAreNewMemory(t *testing.T) {
	one, other := impl.RowLeft(fibonacci, 12, 100), impl.RowLeft(fibonacci, 12, 100)
	want := slices.Clone(other)
	longer := one[:cap(one)]
	for i := range longer {
		longer[i] = -7
	}
	if !slices.Equal(other, want) || !slices.Equal(impl.RowLeft(fibonacci, 12, 100), want) {
		t.Error("two rows share memory")
	}
}

func checkNoRow(t *testing.T, p impl.Pair, places, divisors []int) {
	t.Helper()
	for _, place := range places {
		for _, by := range divisors {
			if got := impl.RowLeft(p, place, by); len(got) != 0 {
				t.Errorf("RowLeft(%v, %d, %d) is %v", p, place, by, got)
			}
		}
	}
}

func TestPromise13AnythingElseHasNoRow(t *testing.T) {
	badPlaces, badDivisors := outside(0, listed), outside(1, impl.MaxBy)
	for _, p := range allPairs() {
		checkNoRow(t, p, badPlaces, []int{1, 2, impl.MaxBy})
		checkNoRow(t, p, []int{0, 1, 20, listed}, badDivisors)
	}
	checkNoRow(t, fibonacci, append(badPlaces, impl.MaxFar), badDivisors)
	for _, p := range badPairs() {
		checkNoRow(t, p, append(farNumbers(), -1, 0, 1, 7, listed, listed+1), []int{-1, 0, 1, 10, impl.MaxBy, impl.MaxBy + 1})
	}
}
