package tests

import (
	"math/big"
	"slices"
	"testing"

	"loop.example/lucaspairs/impl"
)

// divisorsTried has numbers that divide rows: all small ones, some that are numbers of rows, and both ends.
func divisorsTried() []int {
	return append(upTo(1, 130), append(divisors(), 377, 987, 1023, 1024, 2584, 4095, 4181, 6561, 6765)...)
}

// wrappingFactors has places with numbers that, multiplied in 64 bits, come near 0 again, at a place that may be.
func wrappingFactors() [][2]int {
	return [][2]int{{3, 6148914691236517206}, {5, 3689348814741910325}, {7, 2635249153387078805}, {4, 1<<62 + 2}, {8, 1<<61 + 1}}
}

func quotientAt(t *testing.T, p impl.Pair, place, times int) int {
	t.Helper()
	n, ok := impl.QuotientAt(p, place, times)
	if !ok {
		t.Fatalf("QuotientAt(%v, %d, %d) is not told", p, place, times)
	}
	return n
}

func checkPlaces(t *testing.T, what string, p impl.Pair, got, want []int) {
	t.Helper()
	if !slices.Equal(got, want) {
		t.Errorf("%s of %v are %v, not %v", what, p, got, want)
	}
}

// checkMultiples holds that with a place each multiple of it is told; and of a pair that is apart, that all are multiples of the first one.
func checkMultiples(t *testing.T, what string, p impl.Pair, places []int) {
	t.Helper()
	for _, place := range places {
		for multiple := place; multiple <= impl.MaxIndex; multiple += place {
			if !slices.Contains(places, multiple) {
				t.Errorf("%s of %v have %d, but not %d", what, p, place, multiple)
			}
		}
		if impl.ApartPair(p) && place%places[0] != 0 {
			t.Errorf("%s of %v, that is apart, have %d and %d", what, p, places[0], place)
		}
	}
}

// placesThat has the places from 1 on at which something holds of the whole number of a row.
func placesThat(row []*big.Int, holds func(*big.Int) bool) []int {
	var places []int
	for place := 1; place < len(row); place++ {
		if holds(row[place]) {
			places = append(places, place)
		}
	}
	return places
}

func every(step int) []int {
	var places []int
	for place := step; place <= 20; place += step {
		places = append(places, place)
	}
	return places
}

// checkNewMemory holds that what one asker does with a list, behind its end too, is not seen by another one. Nothing in the list may be zero, since it is made zero.
func checkNewMemory[T comparable](t *testing.T, name string, of func() []T) {
	t.Helper()
	one, other := of(), of()
	want := slices.Clone(other)
	clear(one[:cap(one)])
	if len(want) == 0 || !slices.Equal(other, want) || !slices.Equal(of(), want) {
		t.Errorf("two results of %s share memory", name)
	}
}

// The divisors are tried one by one here.
func TestPromise14ApartPairsHaveNoCommonDivisor(t *testing.T) {
	for _, p := range allPairs() {
		want := p != impl.Pair{}
		for by := 2; by <= 4; by++ {
			if p.P%by == 0 && p.Q%by == 0 {
				want = false
			}
		}
		if got := impl.ApartPair(p); got != want {
			t.Errorf("ApartPair(%v) is %v", p, got)
		}
	}
}

func TestPromise14SignsDoNotMatter(t *testing.T) {
	for _, p := range allPairs() {
		got := impl.ApartPair(p)
		for _, signed := range []impl.Pair{{P: -p.P, Q: p.Q}, {P: p.P, Q: -p.Q}, {P: -p.P, Q: -p.Q}} {
			if impl.ApartPair(signed) != got {
				t.Errorf("ApartPair(%v) is %v, but not that of %v", p, got, signed)
			}
		}
		if (p.P*p.P == 1 || p.Q*p.Q == 1) && !got {
			t.Errorf("%v is not apart", p)
		}
	}
}

func TestPromise14KnownPairs(t *testing.T) {
	apart := 0
	for _, p := range allPairs() {
		if impl.ApartPair(p) {
			apart++
		}
	}
	if apart != 48 {
		t.Errorf("%d pairs are apart", apart)
	}
	known := map[impl.Pair]bool{
		{}: false, {Q: 1}: true, {Q: -1}: true, {P: 1}: true, {P: -1}: true, {Q: 2}: false, {P: -2}: false, {P: 3}: false, {Q: -4}: false,
		{P: 1, Q: -1}: true, {P: 2, Q: -4}: false, {P: 4, Q: 2}: false, {P: 3, Q: 2}: true, {P: -3, Q: 3}: false, {P: -2, Q: -3}: true,
		{P: 4, Q: 4}: false, {P: 4, Q: -4}: false, {P: -4, Q: -4}: false, {P: 4, Q: 3}: true, {P: -4, Q: 1}: true, {P: -3, Q: -4}: true,
	}
	for p, want := range known {
		if got := impl.ApartPair(p); got != want {
			t.Errorf("ApartPair(%v) is %v", p, got)
		}
	}
}

func TestPromise14AnythingElseIsNotApart(t *testing.T) {
	for _, p := range badPairs() {
		if impl.ApartPair(p) {
			t.Errorf("%v is apart", p)
		}
	}
}

func TestPromise15WhatBothShareIsAtWhatThePlacesShare(t *testing.T) {
	for _, p := range allPairs() {
		if !impl.ApartPair(p) {
			continue
		}
		for a := 1; a <= impl.MaxIndex; a++ {
			for b := 1; b <= impl.MaxIndex; b++ {
				place := int(new(big.Int).GCD(nil, nil, big.NewInt(int64(a)), big.NewInt(int64(b))).Int64())
				want := max(firstAt(t, p, place), -firstAt(t, p, place))
				checkLeft(t, "SharedAt", p, a, b, impl.SharedAt(p, a, b), want)
			}
		}
	}
}

// Pairs that are not apart are asked here, too.
func TestPromise15ItIsTheGreatestCommonDivisor(t *testing.T) {
	for _, p := range allPairs() {
		row := wholeRow(p, 0, 1, impl.MaxIndex)
		for a := 1; a <= impl.MaxIndex; a++ {
			for b := 1; b <= impl.MaxIndex; b++ {
				want := new(big.Int).GCD(nil, nil, new(big.Int).Abs(row[a]), new(big.Int).Abs(row[b]))
				checkLeft(t, "SharedAt", p, a, b, impl.SharedAt(p, a, b), int(want.Int64()))
			}
		}
	}
}

// The numbers here were made apart from the program.
func TestPromise15KnownDivisors(t *testing.T) {
	places := [12][2]int{{1, 1}, {1, 20}, {20, 20}, {12, 18}, {18, 12}, {5, 7}, {6, 12}, {4, 20}, {3, 9}, {8, 12}, {2, 4}, {19, 20}}
	known := map[impl.Pair][12]int{
		{P: 1, Q: -1}:  {1, 1, 6765, 8, 8, 1, 8, 3, 2, 3, 1, 1},
		{P: 3, Q: 2}:   {1, 1, 1048575, 63, 63, 1, 63, 15, 7, 15, 3, 1},
		{P: -3, Q: 1}:  {1, 1, 102334155, 144, 144, 1, 144, 21, 8, 21, 3, 1},
		{P: 4, Q: -4}:  {1, 1, 8385686667264, 286720, 286720, 16, 2240, 96, 20, 3072, 4, 262144},
		{P: -4, Q: -4}: {1, 1, 8385686667264, 286720, 286720, 16, 2240, 96, 20, 3072, 4, 262144},
		{P: 4, Q: 4}:   {1, 1, 10485760, 24576, 24576, 16, 192, 32, 12, 1024, 4, 262144},
		{P: -4, Q: 4}:  {1, 1, 10485760, 24576, 24576, 16, 192, 32, 12, 1024, 4, 262144},
		{}:             {1, 1, 0, 0, 0, 0, 0, 0, 0, 0, 0, 0},
		{P: 3}:         {1, 1, 1162261467, 177147, 177147, 81, 243, 27, 9, 2187, 3, 387420489},
		{Q: 4}:         {1, 1, 0, 0, 0, 16, 0, 0, 4, 0, 0, 262144},
		{Q: 1}:         {1, 1, 0, 0, 0, 1, 0, 0, 1, 0, 0, 1},
		{P: 1, Q: 1}:   {1, 1, 1, 0, 0, 1, 0, 1, 0, 1, 1, 1},
		{P: 2, Q: 2}:   {1, 1, 0, 512, 512, 4, 8, 0, 2, 0, 2, 512},
		{P: 3, Q: 3}:   {1, 1, 59049, 0, 0, 9, 0, 9, 6, 81, 3, 19683},
		{P: -1}:        {1, 1, 1, 1, 1, 1, 1, 1, 1, 1, 1, 1},
	}
	for p, numbers := range known {
		for i, want := range numbers {
			checkLeft(t, "SharedAt", p, places[i][0], places[i][1], impl.SharedAt(p, places[i][0], places[i][1]), want)
		}
	}
}

func TestPromise15AnythingElseSharesNothing(t *testing.T) {
	bad := outside(1, impl.MaxIndex)
	for _, p := range allPairs() {
		checkNotLeft(t, "SharedAt", p, bad, []int{1, 2, impl.MaxIndex}, impl.SharedAt)
		checkNotLeft(t, "SharedAt", p, []int{1, 2, impl.MaxIndex}, bad, impl.SharedAt)
	}
	checkNotLeft(t, "SharedAt", fibonacci, bad, bad, impl.SharedAt)
	for _, p := range badPairs() {
		places := append(farNumbers(), upTo(-1, 3)...)
		places = append(places, impl.MaxIndex, impl.MaxIndex+1)
		checkNotLeft(t, "SharedAt", p, places, places, impl.SharedAt)
	}
}

func TestPromise16PlacesThatDivideMakeNumbersThatDivide(t *testing.T) {
	for _, p := range allPairs() {
		for place := 1; place <= impl.MaxIndex; place++ {
			number := firstAt(t, p, place)
			if number == 0 {
				continue
			}
			for times := 1; place*times <= impl.MaxIndex; times++ {
				got := quotientAt(t, p, place, times)
				if want := firstAt(t, p, place*times); got*number != want {
					t.Errorf("QuotientAt(%v, %d, %d) is %d, but %d times it is not %d", p, place, times, got, number, want)
				}
				if times == 2 && got != secondAt(t, p, place) {
					t.Errorf("QuotientAt(%v, %d, 2) is %d, not as in the second row", p, place, got)
				}
				if times == 1 && got != 1 {
					t.Errorf("QuotientAt(%v, %d, 1) is %d", p, place, got)
				}
			}
		}
	}
}

// The quotients are themselves a first row: that of the number of the second row at the place, and of Q to the power of the place.
func TestPromise16QuotientsAreARow(t *testing.T) {
	for _, p := range allPairs() {
		for place := 1; place <= impl.MaxIndex; place++ {
			if firstAt(t, p, place) == 0 {
				continue
			}
			row := wholeRow(impl.Pair{P: secondAt(t, p, place), Q: power(p.Q, place)}, 0, 1, impl.MaxIndex)
			for times := 1; place*times <= impl.MaxIndex; times++ {
				if got := quotientAt(t, p, place, times); big.NewInt(int64(got)).Cmp(row[times]) != 0 {
					t.Errorf("QuotientAt(%v, %d, %d) is %d, not %v", p, place, times, got, row[times])
				}
			}
		}
	}
}

// The numbers here were made apart from the program.
func TestPromise16KnownQuotients(t *testing.T) {
	places := [9][2]int{{1, 1}, {1, 20}, {20, 1}, {5, 3}, {2, 10}, {10, 2}, {3, 6}, {4, 2}, {6, 3}}
	known := map[impl.Pair][9]int{
		{P: 1, Q: -1}:  {1, 6765, 1, 122, 6765, 123, 1292, 7, 323},
		{P: 2, Q: -1}:  {1, 15994428, 1, 6725, 7997214, 6726, 548842, 34, 39203},
		{P: 4, Q: -4}:  {1, 8385686667264, 1, 6886400, 2096421666816, 6887424, 17984454656, 544, 160575488},
		{P: -4, Q: -4}: {1, -8385686667264, 1, 6886400, 2096421666816, 6887424, -17984454656, 544, 160575488},
		{P: 4, Q: 4}:   {1, 10485760, 1, 3072, 2621440, 2048, 196608, 32, 12288},
		{P: -4, Q: 4}:  {1, -10485760, 1, 3072, 2621440, 2048, -196608, 32, 12288},
		{P: 3}:         {1, 1162261467, 1, 59049, 387420489, 59049, 14348907, 81, 531441},
		{P: -1}:        {1, -1, 1, 1, 1, 1, -1, 1, 1},
		{P: 2, Q: 1}:   {1, 20, 1, 3, 10, 2, 6, 2, 3},
		{P: -3, Q: 1}:  {1, -102334155, 1, 15128, 34111385, 15127, -1866294, 47, 103683},
	}
	for p, numbers := range known {
		for i, want := range numbers {
			if got := quotientAt(t, p, places[i][0], places[i][1]); got != want {
				t.Errorf("QuotientAt(%v, %v) is %d, not %d", p, places[i], got, want)
			}
		}
	}
	noughts := []struct {
		pair               impl.Pair
		place, times, want int
	}{
		{impl.Pair{Q: 1}, 1, 20, 0}, {impl.Pair{Q: 1}, 5, 3, -1}, {impl.Pair{Q: 4}, 3, 6, 0}, {impl.Pair{}, 1, 20, 0}, {impl.Pair{}, 1, 1, 1},
		{impl.Pair{P: 1, Q: 1}, 5, 3, 0}, {impl.Pair{P: 1, Q: 1}, 10, 2, -1}, {impl.Pair{P: 2, Q: 2}, 10, 2, 0}, {impl.Pair{P: 2, Q: 2}, 6, 3, -64},
	}
	for _, k := range noughts {
		if got := quotientAt(t, k.pair, k.place, k.times); got != k.want {
			t.Errorf("QuotientAt(%v, %d, %d) is %d, not %d", k.pair, k.place, k.times, got, k.want)
		}
	}
}

func TestPromise16NothingIsDividedByNought(t *testing.T) {
	for _, p := range allPairs() {
		for place := 1; place <= impl.MaxIndex; place++ {
			if firstAt(t, p, place) == 0 {
				checkTwoNothing(t, "QuotientAt", p, []int{place}, append(farNumbers(), upTo(-2, 22)...), impl.QuotientAt)
			}
		}
	}
	checkTwoNothing(t, "QuotientAt", impl.Pair{Q: 1}, []int{2, 20}, []int{1, 2}, impl.QuotientAt)
	checkTwoNothing(t, "QuotientAt", impl.Pair{P: 1, Q: 1}, []int{3, 18}, []int{1, 2}, impl.QuotientAt)
	checkTwoNothing(t, "QuotientAt", impl.Pair{P: 2, Q: 2}, []int{4, 20}, []int{1, 2}, impl.QuotientAt)
}

func TestPromise16AnythingElseHasNoQuotient(t *testing.T) {
	bad := outside(1, impl.MaxIndex)
	for _, p := range allPairs() {
		checkTwoNothing(t, "QuotientAt", p, bad, append(upTo(-3, 3), impl.MaxIndex), impl.QuotientAt)
		for place := 1; place <= impl.MaxIndex; place++ {
			checkTwoNothing(t, "QuotientAt", p, []int{place}, outside(1, impl.MaxIndex/place), impl.QuotientAt)
		}
		for _, f := range wrappingFactors() {
			checkTwoNothing(t, "QuotientAt", p, f[:1], f[1:], impl.QuotientAt)
			checkTwoNothing(t, "QuotientAt", p, f[1:], f[:1], impl.QuotientAt)
		}
	}
	checkTwoNothing(t, "QuotientAt", fibonacci, bad, bad, impl.QuotientAt)
	for _, p := range badPairs() {
		places := append(farNumbers(), upTo(-1, 4)...)
		places = append(places, impl.MaxIndex, impl.MaxIndex+1)
		checkTwoNothing(t, "QuotientAt", p, places, places, impl.QuotientAt)
	}
}

func TestPromise17NoughtsComeByMultiples(t *testing.T) {
	for _, p := range allPairs() {
		zeros := impl.ZerosIn(p)
		want := placesThat(wholeRow(p, 0, 1, impl.MaxIndex), func(n *big.Int) bool { return n.Sign() == 0 })
		checkPlaces(t, "the noughts", p, zeros, want)
		checkMultiples(t, "the noughts", p, zeros)
	}
}

// All rows with noughts are here, with the place of the first one; but for 0 and 0 the others are its multiples.
func TestPromise17KnownNoughts(t *testing.T) {
	firsts := map[impl.Pair]int{
		{P: 1, Q: 1}: 3, {P: -1, Q: 1}: 3, {P: 2, Q: 4}: 3, {P: -2, Q: 4}: 3,
		{P: 2, Q: 2}: 4, {P: -2, Q: 2}: 4, {P: 3, Q: 3}: 6, {P: -3, Q: 3}: 6,
	}
	for q := 1; q <= 4; q++ {
		firsts[impl.Pair{Q: q}], firsts[impl.Pair{Q: -q}] = 2, 2
	}
	for _, p := range allPairs() {
		var want []int
		if first := firsts[p]; first != 0 {
			want = every(first)
		}
		if p == (impl.Pair{}) {
			want = upTo(2, 20)
		}
		checkPlaces(t, "the noughts", p, impl.ZerosIn(p), want)
	}
}

func TestPromise17NoughtsAreNewMemory(t *testing.T) {
	for _, p := range []impl.Pair{{}, {Q: 1}, {P: 1, Q: 1}, {P: 2, Q: 2}} {
		checkNewMemory(t, "ZerosIn", func() []int { return impl.ZerosIn(p) })
	}
}

func TestPromise17AnythingElseHasNoNoughts(t *testing.T) {
	for _, p := range badPairs() {
		checkPlaces(t, "the noughts", p, impl.ZerosIn(p), nil)
	}
}

func TestPromise18WhatDividesDividesAtMultiples(t *testing.T) {
	for _, p := range allPairs() {
		row := wholeRow(p, 0, 1, impl.MaxIndex)
		for _, by := range divisorsTried() {
			places := impl.DividedAt(p, by)
			want := placesThat(row, func(n *big.Int) bool { return wholeRemainder(n, by) == 0 })
			checkPlaces(t, "the places divided by "+big.NewInt(int64(by)).String(), p, places, want)
			checkMultiples(t, "the places divided by "+big.NewInt(int64(by)).String(), p, places)
		}
	}
}

// The numbers here were made apart from the program.
func TestPromise18KnownPlaces(t *testing.T) {
	known := []struct {
		pair impl.Pair
		by   int
		want []int
	}{
		{fibonacci, 1, upTo(1, 20)}, {fibonacci, 4, every(6)}, {fibonacci, 7, every(8)}, {fibonacci, 55, every(10)},
		{fibonacci, 6765, []int{20}}, {fibonacci, 6764, nil}, {fibonacci, 9999, nil}, {fibonacci, 10000, nil},
		{impl.Pair{P: 3, Q: 2}, 2, nil}, {impl.Pair{P: 3, Q: 2}, 7, every(3)}, {impl.Pair{P: 3, Q: 2}, 55, []int{20}},
		{impl.Pair{P: 4, Q: -4}, 1024, append([]int{8}, upTo(10, 20)...)}, {impl.Pair{P: -4, Q: -4}, 1024, append([]int{8}, upTo(10, 20)...)},
		{impl.Pair{P: 4, Q: 4}, 3, every(3)}, {impl.Pair{P: -4, Q: 4}, 7, every(7)}, {impl.Pair{P: -4, Q: 4}, 10000, nil},
		{impl.Pair{}, 1, upTo(1, 20)}, {impl.Pair{}, 2, upTo(2, 20)}, {impl.Pair{}, 10000, upTo(2, 20)},
		{impl.Pair{P: 3}, 3, upTo(2, 20)}, {impl.Pair{P: 3}, 10000, nil}, {impl.Pair{P: -4}, 1024, upTo(6, 20)}, {impl.Pair{P: -1}, 2, nil},
		{impl.Pair{Q: 4}, 1024, append(every(2)[:5], upTo(11, 20)...)}, {impl.Pair{Q: -4}, 10000, every(2)}, {impl.Pair{Q: 1}, 10000, every(2)},
		{impl.Pair{P: 1, Q: 1}, 1, upTo(1, 20)}, {impl.Pair{P: 1, Q: 1}, 10000, every(3)},
		{impl.Pair{P: 2, Q: 2}, 4, upTo(4, 20)}, {impl.Pair{P: 2, Q: 2}, 10000, every(4)},
		{impl.Pair{P: 3, Q: 3}, 2, every(3)}, {impl.Pair{P: 3, Q: 3}, 4, every(6)},
	}
	for _, k := range known {
		checkPlaces(t, "the places divided", k.pair, impl.DividedAt(k.pair, k.by), k.want)
	}
}

func TestPromise18PlacesAreNewMemory(t *testing.T) {
	for _, p := range []impl.Pair{fibonacci, {}, {P: 4, Q: -4}} {
		checkNewMemory(t, "DividedAt", func() []int { return impl.DividedAt(p, 1) })
		checkNewMemory(t, "DividedAt", func() []int { return impl.DividedAt(p, 4) })
	}
}

func TestPromise18AnythingElseDividesNothing(t *testing.T) {
	for _, p := range allPairs() {
		for _, by := range outside(1, impl.MaxBy) {
			checkPlaces(t, "the places divided by "+big.NewInt(int64(by)).String(), p, impl.DividedAt(p, by), nil)
		}
	}
	for _, p := range badPairs() {
		for _, by := range append(farNumbers(), -1, 0, 1, 2, impl.MaxBy, impl.MaxBy+1) {
			checkPlaces(t, "the places divided by "+big.NewInt(int64(by)).String(), p, impl.DividedAt(p, by), nil)
		}
	}
}
