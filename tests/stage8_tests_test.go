package tests

import (
	"math/big"
	"slices"
	"testing"

	"loop.example/lucaspairs/impl"
)

// passingAsked is the greatest number up to which PassingFirst lists.
const passingAsked = 1000

// oddNumbers has all second numbers of SignOf, from 1 up to 9999.
func oddNumbers() []int {
	var numbers []int
	for by := 1; by <= impl.MaxTested; by += 2 {
		numbers = append(numbers, by)
	}
	return numbers
}

// chosenOdd has 1, second numbers that leave 1, 3, 5 and 7 divided by 8, primes, powers and products of primes, and the greatest ones.
func chosenOdd() []int {
	return []int{
		1, 3, 5, 7, 9, 11, 13, 15, 17, 19, 21, 23, 25, 27, 35, 45, 49, 63, 77, 81, 105, 121, 169, 397, 401, 1155,
		3125, 6561, 9409, 9801, 9967, 9973, 9991, 9993, 9995, 9997, 9999,
	}
}

// signedNumbers has numbers less than 0 and from 0 on: all small ones, powers of 2 and what is beside them, and both ends.
func signedNumbers() []int {
	numbers := append(upTo(-30, 30), 45, 100, 105, 1155, 3003, 9973, -45, -100, -105, -1155, -3003, -9973)
	for bit := 5; bit <= 13; bit++ {
		numbers = append(numbers, 1<<bit, -1<<bit, 1<<bit-1, 1<<bit+1)
	}
	numbers = append(numbers, upTo(-impl.MaxBy, -impl.MaxBy+4)...)
	return append(numbers, upTo(impl.MaxBy-4, impl.MaxBy)...)
}

// evenNumbers has the even numbers from 0 up to MaxTested, of which no sign is told.
func evenNumbers() []int {
	var numbers []int
	for by := 0; by <= impl.MaxTested; by += 2 {
		numbers = append(numbers, by)
	}
	return numbers
}

// outsideTested has numbers below the least one that is tested and above MaxTested, with primes, and numbers with the other sign, among them.
func outsideTested(least int) []int {
	return append(outside(least, impl.MaxTested), -9999, -9973, -323, -7, -3, 10001, 10003, 10007, 10009, 10877, 19999, 20001)
}

// manyTested has the pairs of which all numbers up to MaxTested are asked.
func manyTested() []impl.Pair {
	return []impl.Pair{
		fibonacci, {P: -4, Q: 4}, {P: -3, Q: 1}, {P: -1, Q: -3}, {P: 0, Q: 3}, {}, {P: 1, Q: 0}, {P: 1, Q: 2}, {P: 2, Q: 3}, {P: 4, Q: -4},
	}
}

// bigSign is the sign as the library of big numbers tells it.
func bigSign(n, by int) int {
	return big.Jacobi(big.NewInt(int64(n)), big.NewInt(int64(by)))
}

// dividedUpToRoot tells of a number whether some number from 2 up to its root divides it.
func dividedUpToRoot(n int) bool {
	for divisor := 2; divisor*divisor <= n; divisor++ {
		if n%divisor == 0 {
			return true
		}
	}
	return false
}

// passesFirstBy tells, apart from the program, whether a number passes the first row, which is given as it is.
func passesFirstBy(p impl.Pair, row []*big.Int, n int) bool {
	weight := p.P*p.P - 4*p.Q
	if n < 3 || n%2 == 0 || p.Q == 0 || greatestCommon(n, p.Q) != 1 || greatestCommon(n, weight) != 1 {
		return false
	}
	return wholeRemainder(row[n-bigSign(weight, n)], n) == 0
}

func signOf(t *testing.T, n, by int) int {
	t.Helper()
	sign, ok := impl.SignOf(n, by)
	if !ok {
		t.Fatalf("SignOf(%d, %d) is not told", n, by)
	}
	return sign
}

func checkSignOf(t *testing.T, n, by, want int) {
	t.Helper()
	if got, ok := impl.SignOf(n, by); got != want || !ok {
		t.Errorf("SignOf(%d, %d) is %d, %v, not %d", n, by, got, ok, want)
	}
}

func checkNoSignOf(t *testing.T, numbers, seconds []int) {
	t.Helper()
	for _, n := range numbers {
		for _, by := range seconds {
			if sign, ok := impl.SignOf(n, by); sign != 0 || ok {
				t.Errorf("SignOf(%d, %d) is %d, %v", n, by, sign, ok)
			}
		}
	}
}

// checkPasses asks one of both tests.
func checkPasses(t *testing.T, name string, p impl.Pair, n int, passes func(impl.Pair, int) bool, want bool) {
	t.Helper()
	if got := passes(p, n); got != want {
		t.Errorf("%s(%v, %d) is %v", name, p, n, got)
	}
}

func checkSecond(t *testing.T, p impl.Pair, n int, want bool) {
	t.Helper()
	checkPasses(t, "PassesSecond", p, n, impl.PassesSecond, want)
}

func checkFirst(t *testing.T, p impl.Pair, n int, want bool) {
	t.Helper()
	checkPasses(t, "PassesFirst", p, n, impl.PassesFirst, want)
}

func checkPassing(t *testing.T, p impl.Pair, most int, want []int) {
	t.Helper()
	if got := impl.PassingFirst(p, most); !slices.Equal(got, want) {
		t.Errorf("PassingFirst(%v, %d) is %v, not %v", p, most, got, want)
	}
}

func TestMaxTested(t *testing.T) {
	if impl.MaxTested != 10000 {
		t.Errorf("MaxTested is %d", impl.MaxTested)
	}
}

func TestPromise32ForPrimesItIsTheSignOfSquares(t *testing.T) {
	for _, prime := range oddPrimes() {
		for n := -impl.MaxBy; n <= impl.MaxBy; n++ {
			checkSignOf(t, n, prime, squareSign(t, n, prime))
		}
	}
}

func TestPromise32SignsAreMultiplied(t *testing.T) {
	for _, by := range chosenOdd() {
		five := signOf(t, 5, by)
		for n := -impl.MaxBy / 5; n <= impl.MaxBy/5; n++ {
			checkSignOf(t, 5*n, by, signOf(t, n, by)*five)
		}
	}
	for _, by := range oddNumbers() {
		for _, n := range signedNumbers() {
			if -impl.MaxBy <= 5*n && 5*n <= impl.MaxBy {
				checkSignOf(t, 5*n, by, signOf(t, n, by)*signOf(t, 5, by))
			}
		}
	}
}

func TestPromise32ItIsNoughtForACommonDivisor(t *testing.T) {
	check := func(n, by int) {
		if sign := signOf(t, n, by); (sign == 0) != (greatestCommon(n, by) != 1) {
			t.Errorf("SignOf(%d, %d) is %d", n, by, sign)
		}
	}
	for _, by := range chosenOdd() {
		for n := -impl.MaxBy; n <= impl.MaxBy; n++ {
			check(n, by)
		}
	}
	for _, by := range oddNumbers() {
		for _, n := range signedNumbers() {
			check(n, by)
		}
		check(by, by)
		check(-by, by)
	}
}

// The sign is that of all primes of which the second number is the product; big numbers have it, too.
func TestPromise32SignsAreThoseOfBigNumbers(t *testing.T) {
	for _, by := range chosenOdd() {
		for n := -impl.MaxBy; n <= impl.MaxBy; n++ {
			checkSignOf(t, n, by, bigSign(n, by))
		}
	}
	for _, by := range oddNumbers() {
		for _, n := range signedNumbers() {
			checkSignOf(t, n, by, bigSign(n, by))
		}
	}
}

// For 1 the sign is 1 even of 0 and of what 1 divides, as it does all; for others it is 0 of their multiples.
func TestPromise32OneAndMultiples(t *testing.T) {
	for n := -impl.MaxBy; n <= impl.MaxBy; n++ {
		checkSignOf(t, n, 1, 1)
	}
	for by := 3; by <= impl.MaxTested; by += 2 {
		for n := -impl.MaxBy / by * by; n <= impl.MaxBy; n += by {
			checkSignOf(t, n, by, 0)
		}
		checkSignOf(t, 1, by, 1)
	}
}

// The numbers here were made apart from the program, as products of the signs for primes.
func TestPromise32KnownSigns(t *testing.T) {
	seconds := [22]int{1, 3, 5, 7, 9, 15, 17, 21, 23, 25, 49, 77, 121, 9409, 9801, 9967, 9973, 9991, 9993, 9995, 9997, 9999}
	known := map[int][22]int{
		-10000: {1, -1, 0, -1, 1, 0, 1, 1, -1, 0, 1, 1, 1, 1, 1, -1, 1, -1, 1, 0, 1, -1},
		-9999:  {1, 0, 1, 1, 0, 0, -1, 0, 1, 1, 1, 0, 0, 1, 0, -1, 1, -1, 0, -1, -1, 0},
		-4096:  {1, -1, 1, -1, 1, -1, 1, 1, -1, 1, 1, 1, 1, 1, 1, -1, 1, -1, 1, -1, 1, -1},
		-7:     {1, -1, -1, 0, 1, 1, -1, 0, 1, 1, 0, 0, 1, 1, 1, -1, -1, 1, 1, -1, 1, -1},
		-5:     {1, 1, 0, 1, 1, 0, -1, 1, 1, 0, 1, -1, 1, 1, 1, 1, -1, -1, -1, 0, -1, -1},
		-3:     {1, 0, -1, 1, 0, 0, -1, 0, -1, 1, 1, -1, 1, 1, 0, 1, 1, 1, 0, -1, 1, 0},
		-2:     {1, 1, -1, -1, 1, -1, 1, -1, -1, 1, 1, -1, 1, 1, 1, -1, -1, -1, 1, 1, -1, -1},
		-1:     {1, -1, 1, -1, 1, -1, 1, 1, -1, 1, 1, 1, 1, 1, 1, -1, 1, -1, 1, -1, 1, -1},
		0:      {1},
		1:      {1, 1, 1, 1, 1, 1, 1, 1, 1, 1, 1, 1, 1, 1, 1, 1, 1, 1, 1, 1, 1, 1},
		2:      {1, -1, -1, 1, 1, 1, 1, -1, 1, 1, 1, -1, 1, 1, 1, 1, -1, 1, 1, -1, -1, 1},
		3:      {1, 0, -1, -1, 0, 0, -1, 0, 1, 1, 1, -1, 1, 1, 0, -1, 1, -1, 0, 1, 1, 0},
		5:      {1, -1, 0, -1, 1, 0, -1, 1, -1, 0, 1, -1, 1, 1, 1, -1, -1, 1, -1, 0, -1, 1},
		6:      {1, 0, 1, -1, 0, 0, -1, 0, 1, 1, 1, 1, 1, 1, 0, -1, -1, -1, 0, -1, -1, 0},
		7:      {1, 1, -1, 0, 1, -1, -1, 0, -1, 1, 0, 0, 1, 1, 1, 1, -1, -1, 1, 1, 1, 1},
		4096:   {1, 1, 1, 1, 1, 1, 1, 1, 1, 1, 1, 1, 1, 1, 1, 1, 1, 1, 1, 1, 1, 1},
		8192:   {1, -1, -1, 1, 1, 1, 1, -1, 1, 1, 1, -1, 1, 1, 1, 1, -1, 1, 1, -1, -1, 1},
		9973:   {1, 1, -1, -1, 1, -1, -1, -1, -1, 1, 1, 1, 1, 1, 1, -1, 0, -1, -1, 1, -1, 1},
		9999:   {1, 0, 1, -1, 0, 0, -1, 0, -1, 1, 1, 0, 0, 1, 0, 1, 1, 1, 0, 1, -1, 0},
		10000:  {1, 1, 0, 1, 1, 0, 1, 1, 1, 0, 1, 1, 1, 1, 1, 1, 1, 1, 1, 0, 1, 1},
	}
	for n, signs := range known {
		for i, want := range signs {
			checkSignOf(t, n, seconds[i], want)
		}
	}
}

func TestPromise32AnythingElseHasNoSign(t *testing.T) {
	badNumbers := append(outside(-impl.MaxBy, impl.MaxBy), -impl.MaxBy-1, impl.MaxBy+1)
	badSeconds := append(outsideTested(1), evenNumbers()...)
	checkNoSignOf(t, signedNumbers(), badSeconds)
	checkNoSignOf(t, badNumbers, oddNumbers())
	checkNoSignOf(t, badNumbers, append(outsideTested(1), 0, 2, 8, impl.MaxTested))
}

func TestPromise33AllPrimesPassTheSecondRow(t *testing.T) {
	for _, p := range allPairs() {
		for prime := 2; prime <= impl.MaxPrime; prime++ {
			if impl.PrimeOk(prime) {
				checkSecond(t, p, prime, true)
			}
		}
	}
}

func TestPromise33GreaterPrimesPassTheSecondRow(t *testing.T) {
	for _, p := range allPairs() {
		for n := impl.MaxPrime; n <= impl.MaxTested; n++ {
			if !dividedUpToRoot(n) {
				checkSecond(t, p, n, true)
			}
		}
	}
}

// The rows are made here as they are, however great.
func TestPromise33WhatPassesLeavesP(t *testing.T) {
	check := func(p impl.Pair, most int) {
		row := wholeRow(p, 2, int64(p.P), most)
		for n := 2; n <= most; n++ {
			checkSecond(t, p, n, wholeRemainder(row[n], n) == remainder(p.P, n))
		}
	}
	for _, p := range allPairs() {
		check(p, 1200)
	}
	for _, p := range manyTested() {
		check(p, impl.MaxTested)
	}
}

// The numbers here were made apart from the program: of each pair all that are no primes and pass.
func TestPromise33KnownOthersPass(t *testing.T) {
	known := map[impl.Pair][]int{
		fibonacci:     {705, 2465, 2737, 3745, 4181, 5777, 6721},
		{P: 3, Q: 2}:  {341, 561, 645, 1105, 1387, 1729, 1905, 2047, 2465, 2701, 2821, 3277, 4033, 4369, 4371, 4681, 5461, 6601, 7957, 8321, 8481, 8911},
		{P: 4, Q: -4}: {4, 9, 10, 12, 20, 133, 655, 841, 1105, 1308, 4795, 6601, 8257, 8449},
		{P: -4, Q: 2}: {4, 9, 20, 28, 153, 260, 740, 841, 1162, 1204, 1351, 1918, 6601},
		{P: 1, Q: 4}: {
			4, 8, 16, 32, 56, 64, 121, 128, 224, 256, 496, 512, 656, 896, 928, 1024, 1105, 1216, 1472, 1891, 2048, 3584, 4096, 7381, 7936, 8192,
		},
		{P: -1, Q: 2}: {3745},
		{P: 3, Q: 4}:  {841, 961, 1681, 2465, 6391},
	}
	for p, others := range known {
		for n := 2; n <= impl.MaxTested; n++ {
			checkSecond(t, p, n, !dividedUpToRoot(n) || slices.Contains(others, n))
		}
	}
}

// The second row of these pairs is P from the place 1 on; that of -2 and 1 is 2 and -2 by turns.
func TestPromise33RowsThatStay(t *testing.T) {
	for n := 2; n <= impl.MaxTested; n++ {
		checkSecond(t, impl.Pair{}, n, true)
		checkSecond(t, impl.Pair{P: 1}, n, true)
		checkSecond(t, impl.Pair{P: 2, Q: 1}, n, true)
		checkSecond(t, impl.Pair{P: -2, Q: 1}, n, n%2 == 1 || n == 2 || n == 4)
	}
}

func TestPromise33AnythingElseDoesNotPass(t *testing.T) {
	for _, p := range allPairs() {
		for _, n := range append(outsideTested(2), 1, 0, -1, -2) {
			checkSecond(t, p, n, false)
		}
	}
	for _, p := range badPairs() {
		for _, n := range append(farNumbers(), -1, 0, 1, 2, 3, 4, 7, 705, 9973, impl.MaxTested, impl.MaxTested+1) {
			checkSecond(t, p, n, false)
		}
	}
}

func TestPromise34AllPrimesThatFitPassTheFirstRow(t *testing.T) {
	for _, p := range allPairs() {
		for n := 2; n <= impl.MaxPrime; n++ {
			if impl.FittingOk(p, n) {
				checkFirst(t, p, n, true)
			}
		}
	}
}

// No prime above 4 divides Q, and none above 32 divides a weight that is not 0.
func TestPromise34GreaterPrimesPassTheFirstRow(t *testing.T) {
	for _, p := range allPairs() {
		fits := p.Q != 0 && p.P*p.P != 4*p.Q
		for n := impl.MaxPrime; n <= impl.MaxTested; n++ {
			if !dividedUpToRoot(n) {
				checkFirst(t, p, n, fits)
			}
		}
	}
}

func TestPromise34RanksDivideBeside(t *testing.T) {
	eachRanked(func(p impl.Pair, by, rank int) {
		if got := rankOf(t, p, by); got != rank {
			t.Errorf("RankOf(%v, %d) is %d, not %d", p, by, got, rank)
		}
		if by < 3 || by%2 == 0 {
			checkFirst(t, p, by, false)
			return
		}
		weight := weightOf(t, p)
		beside := (by-signOf(t, weight, by))%rank == 0
		checkFirst(t, p, by, beside && greatestCommon(by, weight) == 1)
	})
}

// The rows are made here as they are, however great.
func TestPromise34WhatPassesDividesBeside(t *testing.T) {
	check := func(p impl.Pair, most int) {
		row := wholeRow(p, 0, 1, most+1)
		for n := 2; n <= most; n++ {
			checkFirst(t, p, n, passesFirstBy(p, row, n))
		}
	}
	for _, p := range allPairs() {
		check(p, 1200)
	}
	for _, p := range manyTested() {
		check(p, impl.MaxTested)
	}
}

// The numbers here were made apart from the program: of each pair all that are no primes and pass. Of primes only those that divide Q or the weight do not, as 2 never does.
func TestPromise34KnownOthersPass(t *testing.T) {
	known := []struct {
		pair   impl.Pair
		shared []int
		others []int
	}{
		{fibonacci, []int{5}, []int{323, 377, 1891, 3827, 4181, 5777, 6601, 6721, 8149}},
		{impl.Pair{P: 3, Q: 2}, nil, []int{341, 561, 645, 1105, 1387, 1729, 1905, 2047, 2465, 2701, 2821, 3277, 4033, 4369, 4371, 4681, 5461, 6601, 7957, 8321, 8481, 8911}},
		{impl.Pair{P: -3, Q: 1}, []int{5}, []int{21, 323, 329, 377, 451, 861, 1081, 1819, 1891, 2033, 2211, 3653, 3827, 4089, 4181, 5671, 5777, 6601, 6721, 8149, 8557}},
		{impl.Pair{P: 1, Q: 2}, []int{7}, []int{1541, 1763, 2015, 3655, 5459, 6441, 6721, 7055, 9071}},
		{impl.Pair{P: -2, Q: 3}, []int{3}, []int{559, 1081, 1387, 2015, 2737, 4465, 4559, 4879, 4991, 5183, 5983, 6601, 6721, 6931, 7181, 8159, 8977, 9215, 9881}},
		{impl.Pair{P: -1, Q: -3}, []int{3, 13}, []int{217, 527, 799, 1159, 1457, 1763, 2407, 3599, 5429, 5587, 6479, 6901, 6985, 9637, 9773}},
		{impl.Pair{P: 4, Q: 3}, []int{3}, []int{91, 121, 671, 703, 949, 1105, 1541, 1729, 1891, 2465, 2665, 2701, 2821, 3281, 3367, 3751, 4961, 5551, 6601, 7381, 8401, 8911}},
		{impl.Pair{P: 3, Q: 4}, []int{7}, []int{209, 377, 629, 1541, 1763, 2001, 2015, 3013, 3277, 3403, 3569, 3655, 3995, 5251, 5459, 6441, 6467, 6721, 6847, 7055, 7181, 8777, 9071, 9593, 9869}},
	}
	for _, k := range known {
		for n := 2; n <= impl.MaxTested; n++ {
			fits := n != 2 && !slices.Contains(k.shared, n) && !dividedUpToRoot(n)
			checkFirst(t, k.pair, n, fits || slices.Contains(k.others, n))
		}
	}
}

// With P 0 the row is 0 at all even places, and with 1 and 1 at the multiples of 3: what has no common divisor passes, whatever else it is.
func TestPromise34RowsWithManyNoughts(t *testing.T) {
	for n := 2; n <= impl.MaxTested; n++ {
		apart := n%2 == 1 && n%3 != 0
		checkFirst(t, impl.Pair{Q: 1}, n, n%2 == 1)
		checkFirst(t, impl.Pair{Q: -4}, n, n%2 == 1)
		checkFirst(t, impl.Pair{Q: 3}, n, apart)
		checkFirst(t, impl.Pair{P: 1, Q: 1}, n, apart)
		checkFirst(t, impl.Pair{P: -1, Q: 1}, n, apart)
	}
}

// Numbers that share a divisor with the weight do not pass, though the first ones here divide the row at the place; nor do those that share with Q, or with both, or that are even.
func TestPromise34WhatSharesDoesNotPass(t *testing.T) {
	known := []struct{ p, q, n int }{
		{1, -1, 5}, {1, -1, 25}, {-1, -1, 125}, {1, -1, 3125}, {1, 1, 3}, {1, 1, 9}, {1, 2, 7}, {1, 2, 49}, {4, -3, 7}, {3, -1, 13}, {3, -1, 169},
		{-1, 4, 15}, {1, 4, 9}, {1, 3, 121}, {3, 1, 5}, {-4, 1, 9}, {1, -4, 17}, {2, 4, 21}, {1, -1, 705}, {1, -1, 9995},
		{1, 3, 3}, {1, -3, 9}, {4, 3, 3}, {-4, 3, 9}, {2, 3, 15}, {1, -3, 9999},
		{3, 3, 3}, {3, -3, 9}, {3, 3, 27}, {-3, 3, 9999}, {0, 3, 3}, {0, 3, 9}, {0, -3, 9999},
		{1, -1, 6}, {1, -1, 12}, {1, -1, 24}, {0, 1, 4}, {0, 1, 10000}, {0, -1, 2}, {1, 1, 4}, {1, 1, 10000}, {3, 2, 4}, {3, 2, 6},
	}
	for _, k := range known {
		checkFirst(t, impl.Pair{P: k.p, Q: k.q}, k.n, false)
	}
}

func TestPromise34QOrWeightOfNoughtDoesNotPass(t *testing.T) {
	for _, p := range allPairs() {
		if p.Q != 0 && p.P*p.P != 4*p.Q {
			continue
		}
		for n := 2; n <= impl.MaxTested; n++ {
			checkFirst(t, p, n, false)
		}
	}
}

func TestPromise34AnythingElseDoesNotPass(t *testing.T) {
	for _, p := range allPairs() {
		for _, n := range append(outsideTested(3), evenNumbers()...) {
			checkFirst(t, p, n, false)
		}
		for n := -3; n <= 2; n++ {
			checkFirst(t, p, n, false)
		}
	}
	for _, p := range badPairs() {
		for _, n := range append(farNumbers(), -1, 0, 1, 2, 3, 5, 7, 323, 9973, 9999, impl.MaxTested+1) {
			checkFirst(t, p, n, false)
		}
	}
}

func TestPromise35OthersPassAndAreNoPrimes(t *testing.T) {
	for _, p := range allPairs() {
		list := impl.PassingFirst(p, passingAsked)
		for _, n := range list {
			checkFirst(t, p, n, true)
			if !dividedUpToRoot(n) {
				t.Errorf("PassingFirst(%v, %d) has the prime %d", p, passingAsked, n)
			}
		}
		for n := 1; n <= passingAsked; n++ {
			passes := impl.PassesFirst(p, n) && dividedUpToRoot(n)
			if slices.Contains(list, n) != passes {
				t.Errorf("PassingFirst(%v, %d) has %d: %v", p, passingAsked, n, !passes)
			}
		}
		if !slices.IsSorted(list) || len(slices.Compact(slices.Clone(list))) != len(list) {
			t.Errorf("PassingFirst(%v, %d) is not ascending: %v", p, passingAsked, list)
		}
	}
}

// The rows are made here as they are, however great.
func TestPromise35ListsAreAsOneByOne(t *testing.T) {
	for _, p := range allPairs() {
		row := wholeRow(p, 0, 1, passingAsked+1)
		var others []int
		for n := 1; n <= passingAsked; n++ {
			if passesFirstBy(p, row, n) && dividedUpToRoot(n) {
				others = append(others, n)
			}
		}
		checkPassing(t, p, passingAsked, others)
	}
}

// Less is listed up to less: one less than a number that is told, the number, and one more.
func TestPromise35ListsBeginAlike(t *testing.T) {
	for _, p := range allPairs() {
		list := impl.PassingFirst(p, passingAsked)
		for _, most := range []int{1, 2, 3} {
			checkPassing(t, p, most, nil)
		}
		for i, n := range list {
			if i > 20 && i < len(list)-3 {
				continue
			}
			checkPassing(t, p, n, list[:i+1])
			checkPassing(t, p, n-1, list[:i])
			if n < passingAsked && !slices.Contains(list, n+1) {
				checkPassing(t, p, n+1, list[:i+1])
			}
		}
	}
}

func TestPromise35TheFirstOneOfFibonacciIs323(t *testing.T) {
	for most := 1; most <= passingAsked; most++ {
		want := []int{323, 377}
		if most < 377 {
			want = want[:1]
		}
		if most < 323 {
			want = nil
		}
		checkPassing(t, fibonacci, most, want)
	}
}

// The numbers here were made apart from the program: both ends of -4..4, pairs of which none pass, and one that tells each number that shares nothing with 6.
func TestPromise35KnownLists(t *testing.T) {
	known := map[impl.Pair][]int{
		fibonacci:      {323, 377},
		{P: -4, Q: -4}: {35, 169, 385, 779, 899, 961},
		{P: 4, Q: -4}:  {35, 169, 385, 779, 899, 961},
		{P: -4, Q: 4}:  nil,
		{P: 4, Q: 4}:   nil,
		{P: -4, Q: -3}: {25, 95, 275, 323, 475, 575, 629, 703, 935},
		{P: 4, Q: -1}:  {9, 63, 161, 207, 323, 341, 377, 671, 901},
		{P: 1, Q: -4}:  {9, 49, 63, 65, 143, 361, 441},
		{P: 1, Q: 4}:   {119, 899, 989},
		{P: -3, Q: -4}: {91, 341, 451, 561, 703},
		{P: 3, Q: 2}:   {341, 561, 645},
		{P: 2, Q: 3}:   {559},
		{P: 1, Q: 2}:   nil,
		{P: 2, Q: 1}:   nil,
		{P: 3}:         nil,
		{}:             nil,
	}
	for p, others := range known {
		checkPassing(t, p, passingAsked, others)
	}
	var apart []int
	for n := 3; n <= passingAsked; n++ {
		if n%2 == 1 && n%3 != 0 && dividedUpToRoot(n) {
			apart = append(apart, n)
		}
	}
	checkPassing(t, impl.Pair{P: 1, Q: 1}, passingAsked, apart)
	checkPassing(t, impl.Pair{P: -3, Q: 3}, passingAsked, apart)
	checkPassing(t, impl.Pair{Q: 3}, passingAsked, apart)
}

func TestPromise35ListsAreNewMemory(t *testing.T) {
	checkNewMemory(t, "PassingFirst", func() []int { return impl.PassingFirst(fibonacci, 400) })
	checkNewMemory(t, "PassingFirst", func() []int { return impl.PassingFirst(impl.Pair{Q: 1}, passingAsked) })
}

func TestPromise35AnythingElseHasNoList(t *testing.T) {
	bad := append(outside(1, passingAsked), 0, passingAsked+1, impl.MaxTested, -passingAsked, -323)
	for _, p := range allPairs() {
		for _, most := range bad {
			checkPassing(t, p, most, nil)
		}
	}
	for _, p := range badPairs() {
		for _, most := range append(farNumbers(), -1, 0, 1, 3, 323, 400, passingAsked, passingAsked+1) {
			checkPassing(t, p, most, nil)
		}
	}
}
