package tests

import (
	"math"
	"testing"

	"loop.example/lucaspairs/impl"
)

var fibonacci = impl.Pair{P: 1, Q: -1}

// allPairs has every pair that is ok: both numbers in -4..4.
func allPairs() []impl.Pair {
	var pairs []impl.Pair
	for p := -4; p <= 4; p++ {
		for q := -4; q <= 4; q++ {
			pairs = append(pairs, impl.Pair{P: p, Q: q})
		}
	}
	return pairs
}

// farNumbers lie outside every range of the document, but that 1 << 16 is a place far on; some come near 0 again in 8, 16 or 32 bits, or when their sign is changed.
func farNumbers() []int {
	return []int{
		math.MinInt, math.MinInt + 1, math.MaxInt - 1, math.MaxInt,
		math.MinInt32, math.MaxInt32, 1 << 16, 1 << 32, 1<<32 + 1, -1 << 32, 1<<62 + 2,
	}
}

// badPairs has pairs of which the first number, the second one, or both are outside -4..4.
func badPairs() []impl.Pair {
	var pairs []impl.Pair
	for _, bad := range append(farNumbers(), -256, -6, -5, 5, 6, 256) {
		for good := -4; good <= 4; good++ {
			pairs = append(pairs, impl.Pair{P: bad, Q: good}, impl.Pair{P: good, Q: bad})
		}
		pairs = append(pairs, impl.Pair{P: bad, Q: bad}, impl.Pair{P: bad, Q: 5}, impl.Pair{P: -5, Q: bad})
	}
	return pairs
}

// outside has numbers below low and above high, from just beside them to very small and very large ones.
func outside(low, high int) []int {
	asked := append(farNumbers(), upTo(-300, 300)...)
	asked = append(asked, low-2, low-1, high+1, high+2, 2*high, 10*high)
	var numbers []int
	for _, n := range asked {
		if n < low || n > high {
			numbers = append(numbers, n)
		}
	}
	return numbers
}

// upTo has the numbers from low up to high.
func upTo(low, high int) []int {
	var numbers []int
	for n := low; n <= high; n++ {
		numbers = append(numbers, n)
	}
	return numbers
}

// checkNothing asks what has one place, in 0..high, for places and pairs that are not valid, one by one and together.
func checkNothing(t *testing.T, name string, high int, of func(impl.Pair, int) (int, bool)) {
	t.Helper()
	ask := func(p impl.Pair, places []int) {
		for _, place := range places {
			if n, ok := of(p, place); n != 0 || ok {
				t.Errorf("%s(%v, %d) is %d, %v", name, p, place, n, ok)
			}
		}
	}
	for _, p := range allPairs() {
		ask(p, outside(0, high))
	}
	for _, p := range badPairs() {
		ask(p, append(farNumbers(), upTo(-2, high+2)...))
	}
}

// checkTwoNothing asks what has two places for such of them as are not valid together with a pair.
func checkTwoNothing(t *testing.T, name string, p impl.Pair, first, second []int, of func(impl.Pair, int, int) (int, bool)) {
	t.Helper()
	for _, a := range first {
		for _, b := range second {
			if n, ok := of(p, a, b); n != 0 || ok {
				t.Errorf("%s(%v, %d, %d) is %d, %v", name, p, a, b, n, ok)
			}
		}
	}
}

// rankedAs asks what is told of numbers with a rank for one that has a rank.
func rankedAs(t *testing.T, name string, p impl.Pair, by int, of func(impl.Pair, int) (int, bool)) int {
	t.Helper()
	n, ok := of(p, by)
	if !ok {
		t.Fatalf("%s(%v, %d) is not told", name, p, by)
	}
	return n
}

// checkNotRanked holds that what is told of numbers with a rank is not told of such numbers.
func checkNotRanked(t *testing.T, name string, p impl.Pair, numbers []int, of func(impl.Pair, int) (int, bool)) {
	t.Helper()
	for _, by := range numbers {
		if n, ok := of(p, by); n != -1 || ok {
			t.Errorf("%s(%v, %d) is %d, %v", name, p, by, n, ok)
		}
	}
}

// checkNothingRanked asks what is told of numbers with a rank for numbers and pairs that are not valid, one by one and together.
func checkNothingRanked(t *testing.T, name string, of func(impl.Pair, int) (int, bool)) {
	t.Helper()
	bad := append(outside(1, impl.MaxRanked), -impl.MaxRanked, -7, 401, 403, 409, 997, impl.MaxBy)
	for _, p := range allPairs() {
		checkNotRanked(t, name, p, bad, of)
	}
	for _, p := range badPairs() {
		checkNotRanked(t, name, p, append(farNumbers(), -1, 0, 1, 2, 7, impl.MaxRanked, impl.MaxRanked+1), of)
	}
}

func power(base, exponent int) int {
	product := 1
	for range exponent {
		product *= base
	}
	return product
}

// remainder is what is left of n divided by by, from 0 on, for negative n too.
func remainder(n, by int) int {
	return (n%by + by) % by
}
