package tests

import (
	"testing"

	"loop.example/lucaspairs/impl"
)

// knownPrimes has all primes up to MaxPrime, from 2 up to 397; they were made apart from the program.
func knownPrimes() []int {
	return []int{
		2, 3, 5, 7, 11, 13, 17, 19, 23, 29, 31, 37, 41, 43, 47, 53, 59, 61, 67, 71, 73, 79, 83, 89, 97, 101,
		103, 107, 109, 113, 127, 131, 137, 139, 149, 151, 157, 163, 167, 173, 179, 181, 191, 193, 197, 199, 211, 223, 227, 229, 233, 239,
		241, 251, 257, 263, 269, 271, 277, 281, 283, 293, 307, 311, 313, 317, 331, 337, 347, 349, 353, 359, 367, 373, 379, 383, 389, 397,
	}
}

func oddPrimes() []int {
	return knownPrimes()[1:]
}

// notPrimes has all numbers from 2 up to MaxPrime that are no primes, with squares of primes and products of two.
func notPrimes() []int {
	primes := map[int]bool{}
	for _, prime := range knownPrimes() {
		primes[prime] = true
	}
	var numbers []int
	for n := 2; n <= impl.MaxPrime; n++ {
		if !primes[n] {
			numbers = append(numbers, n)
		}
	}
	return numbers
}

// outsidePrimes has numbers below 2 and above MaxPrime, with primes and primes with the other sign among them.
func outsidePrimes() []int {
	return append(outside(2, impl.MaxPrime), -397, -7, -3, -2, 401, 403, 409, 529, 997, 1000, 9973, impl.MaxBy)
}

// notOddPrimes has numbers that are no odd primes up to MaxPrime: 2, numbers that are no primes, and numbers outside.
func notOddPrimes() []int {
	return append(append(outsidePrimes(), 2), notPrimes()...)
}

// signBySquares tells the sign by trying each square, apart from the program.
func signBySquares(n, prime int) int {
	if n%prime == 0 {
		return 0
	}
	for root := 1; root < prime; root++ {
		if (root*root-n)%prime == 0 {
			return 1
		}
	}
	return -1
}

// signsLeft has the signs of the numbers from 0 up to one less than a prime, as signBySquares has them.
func signsLeft(prime int) []int {
	signs := make([]int, prime)
	for n := range signs {
		signs[n] = signBySquares(n, prime)
	}
	return signs
}

// fitting tells, apart from the program, whether an odd prime fits.
func fitting(p impl.Pair, prime int) bool {
	return p.Q != 0 && p.Q%prime != 0 && (p.P*p.P-4*p.Q)%prime != 0
}

func checkPrime(t *testing.T, n int, want bool) {
	t.Helper()
	if got := impl.PrimeOk(n); got != want {
		t.Errorf("PrimeOk(%d) is %v", n, got)
	}
}

func squareSign(t *testing.T, n, prime int) int {
	t.Helper()
	sign, ok := impl.SquareSign(n, prime)
	if !ok {
		t.Fatalf("SquareSign(%d, %d) is not told", n, prime)
	}
	return sign
}

func checkSign(t *testing.T, n, prime, want int) {
	t.Helper()
	if got, ok := impl.SquareSign(n, prime); got != want || !ok {
		t.Errorf("SquareSign(%d, %d) is %d, %v, not %d", n, prime, got, ok, want)
	}
}

func checkNoSign(t *testing.T, numbers, primes []int) {
	t.Helper()
	for _, n := range numbers {
		for _, prime := range primes {
			if sign, ok := impl.SquareSign(n, prime); sign != 0 || ok {
				t.Errorf("SquareSign(%d, %d) is %d, %v", n, prime, sign, ok)
			}
		}
	}
}

func checkFits(t *testing.T, p impl.Pair, prime int, want bool) {
	t.Helper()
	if got := impl.FittingOk(p, prime); got != want {
		t.Errorf("FittingOk(%v, %d) is %v", p, prime, got)
	}
}

func checkNotFitting(t *testing.T, p impl.Pair, primes []int) {
	t.Helper()
	for _, prime := range primes {
		checkFits(t, p, prime, false)
	}
}

func checkPlace(t *testing.T, p impl.Pair, prime, want int) {
	t.Helper()
	if got, ok := impl.PlaceBy(p, prime); got != want || ok != (want != -1) {
		t.Errorf("PlaceBy(%v, %d) is %d, %v, not %d", p, prime, got, ok, want)
	}
}

func checkNoPlace(t *testing.T, p impl.Pair, primes []int) {
	t.Helper()
	for _, prime := range primes {
		checkPlace(t, p, prime, -1)
	}
}

func atPrime(t *testing.T, p impl.Pair, prime int) (int, int) {
	t.Helper()
	first, second, ok := impl.AtPrime(p, prime)
	if !ok {
		t.Fatalf("AtPrime(%v, %d) is not told", p, prime)
	}
	return first, second
}

func checkAtPrime(t *testing.T, p impl.Pair, prime, wantFirst, wantSecond int) {
	t.Helper()
	if first, second := atPrime(t, p, prime); first != wantFirst || second != wantSecond {
		t.Errorf("AtPrime(%v, %d) is %d, %d, not %d, %d", p, prime, first, second, wantFirst, wantSecond)
	}
}

func checkNotAtPrime(t *testing.T, p impl.Pair, numbers []int) {
	t.Helper()
	for _, n := range numbers {
		if first, second, ok := impl.AtPrime(p, n); first != -1 || second != -1 || ok {
			t.Errorf("AtPrime(%v, %d) is %d, %d, %v", p, n, first, second, ok)
		}
	}
}

func TestMaxPrime(t *testing.T) {
	if impl.MaxPrime != 400 {
		t.Errorf("MaxPrime is %d", impl.MaxPrime)
	}
}

func TestPromise27PrimesHaveNoDivisors(t *testing.T) {
	for n := 2; n <= impl.MaxPrime; n++ {
		divided := false
		for divisor := 2; divisor < n; divisor++ {
			divided = divided || n%divisor == 0
		}
		checkPrime(t, n, !divided)
	}
}

func TestPromise27KnownPrimes(t *testing.T) {
	for _, prime := range knownPrimes() {
		checkPrime(t, prime, true)
	}
	for _, n := range notPrimes() {
		checkPrime(t, n, false)
	}
	if primes, others := len(knownPrimes()), len(notPrimes()); primes != 78 || others != 321 {
		t.Errorf("there are %d primes and %d others", primes, others)
	}
}

func TestPromise27SquaresAndProductsAreNoPrimes(t *testing.T) {
	for _, n := range []int{4, 9, 25, 49, 121, 169, 289, 361, 6, 10, 15, 35, 77, 143, 221, 323, 391, 398, 8, 27, 125, 343, 341, 399, 400} {
		checkPrime(t, n, false)
	}
}

func TestPromise27AnythingElseIsNoPrime(t *testing.T) {
	for _, n := range append(outsidePrimes(), 1, 0, -1) {
		checkPrime(t, n, false)
	}
}

func TestPromise28PowersTellSquares(t *testing.T) {
	for _, prime := range oddPrimes() {
		for n := -impl.MaxBy; n <= impl.MaxBy; n++ {
			sign := squareSign(t, n, prime)
			if got, want := impl.PowerLeft(n, prime/2, prime), remainder(sign, prime); got != want {
				t.Fatalf("SquareSign(%d, %d) is %d, but the power leaves %d", n, prime, sign, got)
			}
		}
	}
}

func TestPromise28SquaresTellTheirSign(t *testing.T) {
	for _, prime := range oddPrimes() {
		signs := signsLeft(prime)
		for n := -impl.MaxBy; n <= impl.MaxBy; n++ {
			if got, want := squareSign(t, n, prime), signs[remainder(n, prime)]; got != want {
				t.Fatalf("SquareSign(%d, %d) is %d, not %d", n, prime, got, want)
			}
		}
	}
}

// 100 is the greatest number of which the square is not greater than MaxBy.
func TestPromise28NumbersTimesThemselves(t *testing.T) {
	for _, prime := range oddPrimes() {
		for n := -100; n <= 100; n++ {
			want := 1
			if n%prime == 0 {
				want = 0
			}
			checkSign(t, n*n, prime, want)
		}
	}
}

// Of the numbers less than a prime, but 0, half are what squares leave.
func TestPromise28HalfOfTheNumbersAreSquares(t *testing.T) {
	for _, prime := range oddPrimes() {
		times := map[int]int{}
		for n := range prime {
			times[squareSign(t, n, prime)]++
		}
		if times[0] != 1 || times[1] != prime/2 || times[-1] != prime/2 {
			t.Errorf("the signs for %d are seen so often: %v", prime, times)
		}
	}
}

// The numbers here were made apart from the program.
func TestPromise28KnownSigns(t *testing.T) {
	known := []struct{ n, prime, want int }{
		{0, 3, 0}, {0, 397, 0}, {1, 3, 1}, {2, 3, -1}, {-1, 3, -1}, {-2, 3, 1}, {3, 3, 0}, {-3, 3, 0},
		{10000, 3, 1}, {-10000, 3, -1}, {9999, 3, 0}, {-9999, 3, 0}, {32, 3, -1}, {-1, 5, 1}, {2, 5, -1}, {5, 5, 0},
		{2, 7, 1}, {3, 7, -1}, {5, 7, -1}, {-1, 7, -1}, {10000, 7, 1}, {-10000, 7, -1}, {5, 11, 1}, {-1, 11, -1},
		{12, 13, 1}, {8, 17, 1}, {-8, 17, 1}, {20, 19, 1}, {-12, 23, -1}, {32, 31, 1}, {-1, 383, -1}, {2, 383, 1},
		{-2, 383, -1}, {5, 383, -1}, {2, 389, -1}, {3, 389, -1}, {-1, 389, 1}, {2, 397, -1}, {3, 397, 1}, {5, 397, -1}, {7, 397, -1},
		{-2, 397, -1}, {-3, 397, 1}, {397, 397, 0}, {-397, 397, 0}, {9925, 397, 0}, {-9925, 397, 0},
		{9999, 397, -1}, {-9999, 397, -1}, {10000, 397, 1}, {-10000, 397, 1},
	}
	for _, k := range known {
		checkSign(t, k.n, k.prime, k.want)
	}
}

func TestPromise28AnythingElseHasNoSign(t *testing.T) {
	numbers := []int{-impl.MaxBy, -7, -1, 0, 1, 2, 5, 7, 400, impl.MaxBy}
	badNumbers := append(outside(-impl.MaxBy, impl.MaxBy), -impl.MaxBy-1, impl.MaxBy+1)
	checkNoSign(t, numbers, notOddPrimes())
	checkNoSign(t, badNumbers, oddPrimes())
	checkNoSign(t, badNumbers, notOddPrimes())
}

func TestPromise29WhatFitsFitsTheTurnedPair(t *testing.T) {
	for _, p := range allPairs() {
		for prime := -10; prime <= impl.MaxPrime+10; prime++ {
			checkFits(t, impl.TurnedOf(p), prime, impl.FittingOk(p, prime))
		}
		checkFits(t, p, 2, false)
	}
}

func TestPromise29PrimesFitThatDivideNeither(t *testing.T) {
	for _, p := range allPairs() {
		for _, prime := range oddPrimes() {
			checkFits(t, p, prime, fitting(p, prime))
		}
	}
}

// The primes here divide Q, or the weight, or both; or they divide 0, as all do; or they divide only what is beside these.
func TestPromise29KnownFits(t *testing.T) {
	known := []struct {
		p, q, prime int
		want        bool
	}{
		{1, -1, 3, true}, {1, -1, 5, false}, {1, -1, 7, true}, {1, -1, 397, true}, {-1, -1, 5, false},
		{1, 3, 3, false}, {1, -3, 3, false}, {1, 3, 11, false}, {1, -3, 13, false}, {1, 3, 13, true}, {1, -3, 11, true},
		{3, 3, 3, false}, {0, 3, 3, false}, {0, -3, 3, false}, {0, -3, 397, true}, {3, 1, 3, true}, {-3, 1, 5, false},
		{4, -3, 7, false}, {-4, -3, 7, false}, {1, 2, 7, false}, {1, -4, 17, false}, {-1, -4, 17, false}, {1, -4, 19, true},
		{1, 4, 3, false}, {1, 4, 5, false}, {1, 4, 7, true}, {3, -4, 5, false}, {4, -4, 3, true}, {-4, -4, 397, true},
		{4, 4, 3, false}, {-4, 4, 397, false}, {2, 1, 3, false}, {-2, 1, 397, false}, {0, 0, 3, false}, {0, 0, 397, false},
		{1, 0, 3, false}, {1, 0, 7, false}, {-4, 0, 397, false}, {4, 0, 5, false}, {0, 1, 3, true}, {0, -1, 5, true}, {0, 4, 3, true},
	}
	for _, k := range known {
		checkFits(t, impl.Pair{P: k.p, Q: k.q}, k.prime, k.want)
	}
}

func TestPromise29AnythingElseDoesNotFit(t *testing.T) {
	for _, p := range allPairs() {
		checkNotFitting(t, p, notOddPrimes())
		if p.Q == 0 || p.P*p.P == 4*p.Q {
			checkNotFitting(t, p, oddPrimes())
		}
	}
	for _, p := range badPairs() {
		checkNotFitting(t, p, oddPrimes())
		checkNotFitting(t, p, []int{-1, 0, 1, 2, 9, 400, 401})
		checkNotFitting(t, p, farNumbers())
	}
}

func TestPromise30PrimesDivideBesideThemselves(t *testing.T) {
	for _, p := range allPairs() {
		for _, prime := range oddPrimes() {
			place, ok := impl.PlaceBy(p, prime)
			if ok != fitting(p, prime) {
				t.Errorf("PlaceBy(%v, %d) is told: %v", p, prime, ok)
			}
			if !ok {
				continue
			}
			checkLeft(t, "FarFirst", p, place, prime, impl.FarFirst(p, place, prime), 0)
			if rank := rankOf(t, p, prime); place%rank != 0 {
				t.Errorf("PlaceBy(%v, %d) is %d, but the rank is %d", p, prime, place, rank)
			}
		}
	}
}

// The weights are told apart here, and so are their signs.
func TestPromise30PlacesAreByTheSignOfTheWeight(t *testing.T) {
	for _, prime := range oddPrimes() {
		signs := signsLeft(prime)
		for _, p := range allPairs() {
			sign := signs[remainder(p.P*p.P-4*p.Q, prime)]
			if !fitting(p, prime) {
				checkPlace(t, p, prime, -1)
				continue
			}
			checkPlace(t, p, prime, prime-sign)
			if told := squareSign(t, weightOf(t, p), prime); told != sign {
				t.Errorf("the sign of the weight of %v for %d is %d", p, prime, told)
			}
		}
	}
}

// The numbers here were made apart from the program: primes that fit, and such that do not, as 2 never does.
func TestPromise30KnownPlaces(t *testing.T) {
	primes := [13]int{2, 3, 5, 7, 11, 13, 17, 19, 23, 41, 43, 389, 397}
	known := map[impl.Pair][13]int{
		{P: 1, Q: -1}:  {-1, 4, -1, 8, 10, 14, 18, 18, 24, 40, 44, 388, 398},
		{P: -1, Q: -1}: {-1, 4, -1, 8, 10, 14, 18, 18, 24, 40, 44, 388, 398},
		{P: 3, Q: 2}:   {-1, 2, 4, 6, 10, 12, 16, 18, 22, 40, 42, 388, 396},
		{P: 4, Q: -4}:  {-1, 4, 6, 6, 12, 14, 16, 20, 22, 40, 44, 390, 398},
		{P: -4, Q: -4}: {-1, 4, 6, 6, 12, 14, 16, 20, 22, 40, 44, 390, 398},
		{P: 4, Q: 4}:   {-1, -1, -1, -1, -1, -1, -1, -1, -1, -1, -1, -1, -1},
		{P: -4, Q: 4}:  {-1, -1, -1, -1, -1, -1, -1, -1, -1, -1, -1, -1, -1},
		{}:             {-1, -1, -1, -1, -1, -1, -1, -1, -1, -1, -1, -1, -1},
		{P: 3}:         {-1, -1, -1, -1, -1, -1, -1, -1, -1, -1, -1, -1, -1},
		{Q: 1}:         {-1, 4, 4, 8, 12, 12, 16, 20, 24, 40, 44, 388, 396},
		{Q: -1}:        {-1, 2, 4, 6, 10, 12, 16, 18, 22, 40, 42, 388, 396},
		{Q: 4}:         {-1, 4, 4, 8, 12, 12, 16, 20, 24, 40, 44, 388, 396},
		{Q: -3}:        {-1, -1, 6, 8, 10, 12, 18, 20, 22, 42, 44, 390, 396},
		{P: 1, Q: 1}:   {-1, -1, 6, 6, 12, 12, 18, 18, 24, 42, 42, 390, 396},
		{P: -2, Q: 1}:  {-1, -1, -1, -1, -1, -1, -1, -1, -1, -1, -1, -1, -1},
		{P: -4, Q: 3}:  {-1, -1, 4, 6, 10, 12, 16, 18, 22, 40, 42, 388, 396},
		{P: 3, Q: 3}:   {-1, -1, 6, 6, 12, 12, 18, 18, 24, 42, 42, 390, 396},
		{P: -2, Q: 3}:  {-1, -1, 6, 8, 10, 14, 16, 18, 24, 40, 42, 390, 398},
		{P: 3, Q: -4}:  {-1, 2, -1, 6, 10, 12, 16, 18, 22, 40, 42, 388, 396},
		{P: 4, Q: -3}:  {-1, -1, 6, -1, 12, 14, 18, 18, 24, 42, 44, 388, 398},
		{P: 1, Q: 4}:   {-1, -1, -1, 8, 12, 14, 16, 18, 22, 42, 44, 390, 398},
		{P: 2, Q: 2}:   {-1, 4, 4, 8, 12, 12, 16, 20, 24, 40, 44, 388, 396},
	}
	for p, places := range known {
		for i, want := range places {
			checkPlace(t, p, primes[i], want)
		}
	}
}

func TestPromise30AnythingElseHasNoPlace(t *testing.T) {
	for _, p := range allPairs() {
		checkNoPlace(t, p, notOddPrimes())
	}
	for _, p := range badPairs() {
		checkNoPlace(t, p, oddPrimes())
		checkNoPlace(t, p, []int{-1, 0, 1, 2, 9, 400, 401})
		checkNoPlace(t, p, farNumbers())
	}
}

func TestPromise31AtPrimesRowsLeaveSignsAndP(t *testing.T) {
	for _, p := range allPairs() {
		for _, prime := range knownPrimes() {
			first, second := atPrime(t, p, prime)
			if second != remainder(p.P, prime) {
				t.Errorf("AtPrime(%v, %d) leaves %d of the second row", p, prime, second)
			}
			if prime == 2 {
				continue
			}
			if sign := squareSign(t, weightOf(t, p), prime); first != remainder(sign, prime) {
				t.Errorf("AtPrime(%v, %d) leaves %d of the first row, but the sign is %d", p, prime, first, sign)
			}
		}
	}
}

// At 2 the first row is P, and the second one the square of P less twice Q.
func TestPromise31AtTwoBothRowsLeaveP(t *testing.T) {
	for _, p := range allPairs() {
		checkAtPrime(t, p, 2, remainder(p.P, 2), remainder(p.P, 2))
	}
}

// The rows are made here as they are, however great.
func TestPromise31AtPrimesRowsAreAsOneByOne(t *testing.T) {
	for _, p := range allPairs() {
		firsts := wholeRow(p, 0, 1, impl.MaxPrime)
		seconds := wholeRow(p, 2, int64(p.P), impl.MaxPrime)
		for _, prime := range knownPrimes() {
			checkAtPrime(t, p, prime, wholeRemainder(firsts[prime], prime), wholeRemainder(seconds[prime], prime))
			checkAtPrime(t, p, prime, impl.FarFirst(p, prime, prime), impl.FarSecond(p, prime, prime))
		}
	}
}

// The numbers here were made apart from the program: primes that fit, and primes that divide Q or the weight.
func TestPromise31KnownNumbersAtPrimes(t *testing.T) {
	primes := [7]int{2, 3, 5, 7, 11, 389, 397}
	known := map[impl.Pair][7][2]int{
		{P: 1, Q: -1}:  {{1, 1}, {2, 1}, {0, 1}, {6, 1}, {1, 1}, {1, 1}, {396, 1}},
		{P: -1, Q: -1}: {{1, 1}, {2, 2}, {0, 4}, {6, 6}, {1, 10}, {1, 388}, {396, 396}},
		{P: 3, Q: 2}:   {{1, 1}, {1, 0}, {1, 3}, {1, 3}, {1, 3}, {1, 3}, {1, 3}},
		{P: 4, Q: -4}:  {{0, 0}, {2, 1}, {4, 4}, {1, 4}, {10, 4}, {388, 4}, {396, 4}},
		{P: -4, Q: -4}: {{0, 0}, {2, 2}, {4, 1}, {1, 3}, {10, 7}, {388, 385}, {396, 393}},
		{P: 4, Q: 4}:   {{0, 0}, {0, 1}, {0, 4}, {0, 4}, {0, 4}, {0, 4}, {0, 4}},
		{P: -4, Q: 4}:  {{0, 0}, {0, 2}, {0, 1}, {0, 3}, {0, 7}, {0, 385}, {0, 393}},
		{}:             {{0, 0}, {0, 0}, {0, 0}, {0, 0}, {0, 0}, {0, 0}, {0, 0}},
		{P: 3}:         {{1, 1}, {0, 0}, {1, 3}, {1, 3}, {1, 3}, {1, 3}, {1, 3}},
		{Q: 4}:         {{0, 0}, {2, 0}, {1, 0}, {6, 0}, {10, 0}, {1, 0}, {1, 0}},
		{Q: -3}:        {{0, 0}, {0, 0}, {4, 0}, {6, 0}, {1, 0}, {388, 0}, {1, 0}},
		{P: 1, Q: 1}:   {{1, 1}, {0, 1}, {4, 1}, {1, 1}, {10, 1}, {388, 1}, {1, 1}},
		{P: -2, Q: 1}:  {{0, 0}, {0, 1}, {0, 3}, {0, 5}, {0, 9}, {0, 387}, {0, 395}},
		{P: 3, Q: 3}:   {{1, 1}, {0, 0}, {4, 3}, {1, 3}, {10, 3}, {388, 3}, {1, 3}},
		{P: -2, Q: 3}:  {{0, 0}, {1, 1}, {4, 3}, {6, 5}, {1, 9}, {388, 387}, {396, 395}},
		{P: 3, Q: -4}:  {{1, 1}, {1, 0}, {0, 3}, {1, 3}, {1, 3}, {1, 3}, {1, 3}},
		{P: 4, Q: -3}:  {{0, 0}, {1, 1}, {4, 4}, {0, 4}, {10, 4}, {1, 4}, {396, 4}},
		{P: 1, Q: 4}:   {{1, 1}, {0, 1}, {0, 1}, {6, 1}, {10, 1}, {388, 1}, {396, 1}},
	}
	for p, both := range known {
		for i, want := range both {
			checkAtPrime(t, p, primes[i], want[0], want[1])
		}
	}
}

func TestPromise31AnythingElseIsNotAtAPrime(t *testing.T) {
	bad := append(outsidePrimes(), notPrimes()...)
	for _, p := range allPairs() {
		checkNotAtPrime(t, p, bad)
	}
	for _, p := range badPairs() {
		checkNotAtPrime(t, p, knownPrimes())
		checkNotAtPrime(t, p, []int{-1, 0, 1, 9, 400, 401})
		checkNotAtPrime(t, p, farNumbers())
	}
}
