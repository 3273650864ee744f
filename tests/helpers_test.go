package tests

import (
	"math"

	"loop.example/lucaspairs/impl"
)

var fibonacci = impl.Pair{P: 1, Q: -1}

// allPairs has every pair that is ok: both numbers in -4..4.
func allPairs() []impl.Pair {
	var pairs []impl.Pair
	for p := -4; p <= 4; p++ {
		for q := -4; q <= 4; q++ {
			pairs = append(pairs, impl.Pair{P: p, Q: q})
		}
	}
	return pairs
}

// farNumbers lie outside every range of the document; some come near 0 again in 8, 16 or 32 bits, or when their sign is changed.
func farNumbers() []int {
	return []int{
		math.MinInt, math.MinInt + 1, math.MaxInt - 1, math.MaxInt,
		math.MinInt32, math.MaxInt32, 1 << 16, 1 << 32, 1<<32 + 1, -1 << 32, 1<<62 + 2,
	}
}

// badPairs has pairs of which the first number, the second one, or both are outside -4..4.
func badPairs() []impl.Pair {
	var pairs []impl.Pair
	for _, bad := range append(farNumbers(), -256, -6, -5, 5, 6, 256) {
		for good := -4; good <= 4; good++ {
			pairs = append(pairs, impl.Pair{P: bad, Q: good}, impl.Pair{P: good, Q: bad})
		}
		pairs = append(pairs, impl.Pair{P: bad, Q: bad}, impl.Pair{P: bad, Q: 5}, impl.Pair{P: -5, Q: bad})
	}
	return pairs
}

// badPlaces has places below 0 and above MaxIndex.
func badPlaces() []int {
	return append(farNumbers(), -256, -21, -20, -2, -1, 21, 22, 256, 266)
}

func power(base, exponent int) int {
	product := 1
	for range exponent {
		product *= base
	}
	return product
}

// remainder is what is left of n divided by by, from 0 on, for negative n too.
func remainder(n, by int) int {
	return (n%by + by) % by
}
