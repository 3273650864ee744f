package tests

import (
	"math/big"
	"testing"

	"loop.example/lucaspairs/impl"
)

// The greatest number of TimesIn, the greatest exponent of PowerRank, the greatest place at which whole numbers of Fibonacci are divided here, and an exponent that is greater than any that is found.
const (
	countedAtMost  = 1000000000
	exponentAtMost = 9
	wholeCounted   = 3000
	exponentTried  = 40
)

// countingPrimes has the primes up to 31.
func countingPrimes() []int {
	return []int{2, 3, 5, 7, 11, 13, 17, 19, 23, 29, 31}
}

// notCounting has all numbers from 1 up to 400 but countingPrimes, 37 and other primes among them, and numbers below and above these.
func notCounting() []int {
	counting := map[int]bool{}
	for _, prime := range countingPrimes() {
		counting[prime] = true
	}
	numbers := append(outside(1, impl.MaxPrime), -37, -31, -5, -3, -2, 401, 409, 961, 9973)
	for n := 1; n <= impl.MaxPrime; n++ {
		if !counting[n] {
			numbers = append(numbers, n)
		}
	}
	return numbers
}

// fewNotCounting has some of notCounting, to be asked together with many others.
func fewNotCounting() []int {
	return append(farNumbers(), -31, -3, -2, -1, 0, 1, 4, 6, 8, 9, 15, 25, 27, 30, 32, 33, 37, 41, 49, 397, 400, 401)
}

// eachPower calls for each prime with its powers up to a number, from the exponent 0 on.
func eachPower(most int, call func(prime, exponent, power int)) {
	for _, prime := range countingPrimes() {
		for exponent := 0; power(prime, exponent) <= most; exponent++ {
			call(prime, exponent, power(prime, exponent))
		}
	}
}

// timesByPowers tells how often a prime divides a number from 1 on by the first power of it that does not.
func timesByPowers(n, prime int) int {
	times := 0
	for power := prime; n%power == 0; power *= prime {
		times++
	}
	return times
}

// wholeTimes is how often a prime divides a number that is not 0, however great.
func wholeTimes(n *big.Int, prime int) int {
	times := 0
	quotient, left := new(big.Int).Set(n), new(big.Int)
	by := big.NewInt(int64(prime))
	for {
		next, _ := new(big.Int).QuoRem(quotient, by, left)
		if left.Sign() != 0 {
			return times
		}
		quotient = next
		times++
	}
}

// fibonacciLeft is what is left of the number of Fibonacci at a place, divided by a number, however great both are: it adds the places of the bits one by one, the least one first, so that it has no step in common with the program.
func fibonacciLeft(place int, by *big.Int) *big.Int {
	// The numbers beside the place of a bit, which is doubled, and beside the sum of the places so far.
	bitBefore, bitAt := big.NewInt(0), big.NewInt(1)
	sumBefore, sumAt := big.NewInt(1), big.NewInt(0)
	for rest := place; rest > 0; rest /= 2 {
		if rest%2 == 1 {
			sumBefore, sumAt = placesAdded(sumBefore, sumAt, bitBefore, bitAt, by)
		}
		bitBefore, bitAt = placesAdded(bitBefore, bitAt, bitBefore, bitAt, by)
	}
	return sumAt
}

// placesAdded has the number before the sum of two places and that at it, from those before and at both.
func placesAdded(oneBefore, oneAt, otherBefore, otherAt, by *big.Int) (*big.Int, *big.Int) {
	product := func(a, b *big.Int) *big.Int { return new(big.Int).Mul(a, b) }
	both := product(oneAt, otherAt)
	before := new(big.Int).Add(product(oneBefore, otherBefore), both)
	at := new(big.Int).Add(product(oneAt, otherBefore), product(oneBefore, otherAt))
	at.Add(at, both)
	return before.Mod(before, by), at.Mod(at, by)
}

// timesByLeft is how often a prime divides the number of Fibonacci at a place, at which it does less than exponentTried times.
func timesByLeft(t *testing.T, place, prime int) int {
	t.Helper()
	by := new(big.Int).Exp(big.NewInt(int64(prime)), big.NewInt(exponentTried), nil)
	left := fibonacciLeft(place, by)
	if left.Sign() == 0 {
		t.Fatalf("%d divides the number at %d too often", prime, place)
	}
	return wholeTimes(left, prime)
}

// rankPlaces has multiples of a rank up to MaxFar, with all powers of the prime in them and what is beside them, and near and far places.
func rankPlaces(prime, rank int) []int {
	places := placesBeside(rank)
	for power := 1; power <= impl.MaxFar/rank; power *= prime {
		for _, times := range []int{1, 2, 3, 4, 5, 6, 7, 12, 30, 31, 64, 81, impl.MaxFar / rank / power} {
			for place := times*power*rank - 1; place <= times*power*rank+1; place++ {
				if 1 <= place && place <= impl.MaxFar {
					places = append(places, place)
				}
			}
		}
		if prime*power <= impl.MaxFar {
			places = append(places, prime*power)
		}
	}
	return places[1:]
}

// properDivisors has all divisors of a number but the number, which has no prime divisor above 400.
func properDivisors(n int) []int {
	divisors := []int{1}
	rest := n
	for _, prime := range knownPrimes() {
		earlier := len(divisors)
		for power := prime; rest%prime == 0; power *= prime {
			rest /= prime
			for _, divisor := range divisors[:earlier] {
				divisors = append(divisors, divisor*power)
			}
		}
	}
	var proper []int
	for _, divisor := range divisors {
		if divisor != n {
			proper = append(proper, divisor)
		}
	}
	return proper
}

// fibRank and powerRank stop at places from which no other ones can be made.
func fibRank(t *testing.T, prime int) int {
	t.Helper()
	rank := impl.FibRank(prime)
	if rank < 1 {
		t.Fatalf("FibRank(%d) is %d", prime, rank)
	}
	return rank
}

func powerRank(t *testing.T, prime, times int) int {
	t.Helper()
	place := impl.PowerRank(prime, times)
	if place < 1 {
		t.Fatalf("PowerRank(%d, %d) is %d", prime, times, place)
	}
	return place
}

func checkTimesIn(t *testing.T, n, prime, want int) {
	t.Helper()
	if got := impl.TimesIn(n, prime); got != want {
		t.Errorf("TimesIn(%d, %d) is %d, not %d", n, prime, got, want)
	}
}

func checkFibRank(t *testing.T, prime, want int) {
	t.Helper()
	if got := impl.FibRank(prime); got != want {
		t.Errorf("FibRank(%d) is %d, not %d", prime, got, want)
	}
}

func checkTimesAt(t *testing.T, place, prime, want int) {
	t.Helper()
	if got := impl.TimesAt(place, prime); got != want {
		t.Errorf("TimesAt(%d, %d) is %d, not %d", place, prime, got, want)
	}
}

func checkPowerRank(t *testing.T, prime, times, want int) {
	t.Helper()
	if got := impl.PowerRank(prime, times); got != want {
		t.Errorf("PowerRank(%d, %d) is %d, not %d", prime, times, got, want)
	}
}

// checkNothingCounted asks what has a number, in 1..most, and a prime, for numbers and primes that are not valid, one by one and together.
func checkNothingCounted(t *testing.T, name string, most int, of func(int, int) int) {
	t.Helper()
	bad := append(outside(1, most), -most, -12, most+1)
	good := append(upTo(1, 40), 60, 1000, 1860, 4096, 6561, most/2, most-1, most)
	ask := func(numbers, primes []int) {
		for _, n := range numbers {
			for _, prime := range primes {
				if got := of(n, prime); got != -1 {
					t.Errorf("%s(%d, %d) is %d", name, n, prime, got)
				}
			}
		}
	}
	ask(bad, countingPrimes())
	ask(good, notCounting())
	ask(bad, fewNotCounting())
}

func TestPromise36ItIsAddedHowOften(t *testing.T) {
	check := func(n int) {
		for _, prime := range countingPrimes() {
			for times := 2; times <= 9 && n*times <= countedAtMost; times++ {
				checkTimesIn(t, n*times, prime, impl.TimesIn(n, prime)+impl.TimesIn(times, prime))
			}
		}
	}
	for n := 1; n <= 5000; n++ {
		check(n)
	}
	for _, n := range farPlaces()[1:] {
		check(n)
	}
	eachPower(countedAtMost, func(_, _, power int) { check(power) })
}

func TestPromise36AllNumbersAndPrimes(t *testing.T) {
	for n := 1; n <= 20000; n++ {
		for _, prime := range countingPrimes() {
			checkTimesIn(t, n, prime, timesByPowers(n, prime))
		}
	}
	for _, n := range farPlaces()[1:] {
		for _, prime := range countingPrimes() {
			checkTimesIn(t, n, prime, timesByPowers(n, prime))
		}
	}
}

// A power of a prime is divided by the prime as often as the exponent tells, by no other one, and the numbers beside it by the prime not at all.
func TestPromise36PowersOfPrimes(t *testing.T) {
	eachPower(countedAtMost, func(prime, exponent, power int) {
		for _, other := range countingPrimes() {
			if other != prime {
				checkTimesIn(t, power, other, 0)
			}
		}
		checkTimesIn(t, power, prime, exponent)
		if power > 2 {
			checkTimesIn(t, power-1, prime, 0)
		}
		if power > 1 && power < countedAtMost {
			checkTimesIn(t, power+1, prime, 0)
		}
		for times := 1; times < 40 && power*times <= countedAtMost; times++ {
			checkTimesIn(t, power*times, prime, exponent+timesByPowers(times, prime))
		}
	})
}

// The greatest powers up to 1000000000 were made apart from the program.
func TestPromise36GreatestPowers(t *testing.T) {
	known := []struct{ prime, power, times int }{
		{2, 536870912, 29}, {3, 387420489, 18}, {5, 244140625, 12}, {7, 282475249, 10}, {11, 214358881, 8}, {13, 815730721, 8},
		{17, 410338673, 7}, {19, 893871739, 7}, {23, 148035889, 6}, {29, 594823321, 6}, {31, 887503681, 6},
	}
	for _, k := range known {
		checkTimesIn(t, k.power, k.prime, k.times)
		checkTimesIn(t, k.power-1, k.prime, 0)
		checkTimesIn(t, k.power+1, k.prime, 0)
		checkTimesIn(t, k.power/k.prime, k.prime, k.times-1)
	}
	for _, prime := range countingPrimes() {
		want := 0
		if prime == 2 || prime == 5 {
			want = 9
		}
		checkTimesIn(t, countedAtMost, prime, want)
		checkTimesIn(t, 1, prime, 0)
	}
	checkTimesIn(t, countedAtMost-1, 3, 4)
	checkTimesIn(t, countedAtMost-1, 2, 0)
	checkTimesIn(t, 48, 2, 4)
	checkTimesIn(t, 48, 3, 1)
}

func TestPromise36AnythingElseIsNotDivided(t *testing.T) {
	checkNothingCounted(t, "TimesIn", countedAtMost, impl.TimesIn)
	for _, prime := range []int{37, 41, 43, 397} {
		checkTimesIn(t, prime, prime, -1)
		checkTimesIn(t, prime*prime, prime, -1)
	}
}

func TestPromise37ItIsRankOf(t *testing.T) {
	for _, prime := range countingPrimes() {
		checkFibRank(t, prime, rankOf(t, fibonacci, prime))
		checkFibRank(t, prime, rankByRow(fibonacci, prime))
	}
}

func TestPromise37RanksOfPrimesAreBesideThem(t *testing.T) {
	checkFibRank(t, 2, 3)
	checkFibRank(t, 5, 5)
	for _, prime := range countingPrimes() {
		rank := fibRank(t, prime)
		if prime != 2 && prime != 5 && (prime-1)%rank != 0 && (prime+1)%rank != 0 {
			t.Errorf("FibRank(%d) is %d", prime, rank)
		}
	}
}

// The numbers here were made apart from the program.
func TestPromise37KnownRanks(t *testing.T) {
	for i, want := range []int{3, 4, 5, 8, 10, 7, 9, 18, 24, 14, 30} {
		checkFibRank(t, countingPrimes()[i], want)
	}
}

func TestPromise37AnythingElseHasNoRank(t *testing.T) {
	for _, n := range append(notCounting(), fewNotCounting()...) {
		checkFibRank(t, n, -1)
	}
}

// The numbers of Fibonacci are made here as they are, however great.
func TestPromise38WholeNumbersAreDividedSoOften(t *testing.T) {
	row := wholeRow(fibonacci, 0, 1, wholeCounted)
	for place := 1; place <= wholeCounted; place++ {
		for _, prime := range countingPrimes() {
			checkTimesAt(t, place, prime, wholeTimes(row[place], prime))
		}
	}
}

func TestPromise38PowersUpToItLeaveNought(t *testing.T) {
	check := func(place, prime int) {
		times := impl.TimesAt(place, prime)
		for exponent := 1; power(prime, exponent) <= impl.MaxBy; exponent++ {
			left := impl.FarFirst(fibonacci, place, power(prime, exponent))
			if (left == 0) != (exponent <= times) {
				t.Errorf("TimesAt(%d, %d) is %d, but to the power of %d is left %d", place, prime, times, exponent, left)
			}
		}
	}
	for _, prime := range countingPrimes() {
		for place := 1; place <= wholeCounted; place++ {
			check(place, prime)
		}
		for _, place := range rankPlaces(prime, fibRank(t, prime)) {
			check(place, prime)
		}
	}
}

// Powers may be greater than MaxBy here.
func TestPromise38FarNumbersAreDividedSoOften(t *testing.T) {
	for _, prime := range countingPrimes() {
		for _, place := range rankPlaces(prime, fibRank(t, prime)) {
			checkTimesAt(t, place, prime, timesByLeft(t, place, prime))
		}
	}
}

// At a place that the rank divides the prime divides, and at others not; at the rank it does just once.
func TestPromise38RanksAndTheirMultiples(t *testing.T) {
	for _, prime := range countingPrimes() {
		rank := fibRank(t, prime)
		checkTimesAt(t, rank, prime, 1)
		for _, place := range rankPlaces(prime, rank) {
			if times := impl.TimesAt(place, prime); (times > 0) != (place%rank == 0) {
				t.Errorf("TimesAt(%d, %d) is %d, though the rank is %d", place, prime, times, rank)
			}
		}
		if prime == 2 {
			continue
		}
		for exponent, power := 0, 1; rank*power <= impl.MaxFar; exponent, power = exponent+1, power*prime {
			checkTimesAt(t, rank*power, prime, 1+exponent)
			if 2*rank*power <= impl.MaxFar {
				checkTimesAt(t, 2*rank*power, prime, 1+exponent)
			}
		}
	}
}

// For 2 there is 1 at places that 3 divides but not 6, and at multiples of 6 there are 3 or more; 5 divides as often as it divides the place.
func TestPromise38TwoAndFive(t *testing.T) {
	places := append(upTo(1, wholeCounted), farPlaces()[1:]...)
	for exponent := 0; 3<<exponent <= impl.MaxFar; exponent++ {
		places = append(places, 3<<exponent)
	}
	for exponent := 0; power(5, exponent) <= impl.MaxFar; exponent++ {
		places = append(places, power(5, exponent))
	}
	for _, place := range places {
		checkTimesAt(t, place, 5, timesByPowers(place, 5))
		switch {
		case place%6 == 0:
			checkTimesAt(t, place, 2, 2+timesByPowers(place, 2))
		case place%3 == 0:
			checkTimesAt(t, place, 2, 1)
		default:
			checkTimesAt(t, place, 2, 0)
		}
	}
	checkTimesAt(t, 3<<28, 2, 30)
}

// The numbers here were made apart from the program, for each prime from 2 up to 31.
func TestPromise38KnownPlaces(t *testing.T) {
	known := map[int][11]int{
		1: {}, 2: {}, 169: {},
		3:           {1},
		4:           {0, 1},
		5:           {0, 0, 1},
		6:           {3},
		7:           {0, 0, 0, 0, 0, 1},
		9:           {1, 0, 0, 0, 0, 0, 1},
		12:          {4, 2},
		24:          {5, 2, 0, 1, 0, 0, 0, 0, 1},
		25:          {0, 0, 2},
		60:          {4, 2, 1, 0, 1, 0, 0, 0, 0, 0, 1},
		96:          {7, 2, 0, 1, 0, 0, 0, 0, 1},
		108:         {4, 4, 0, 0, 0, 0, 1, 1},
		1000:        {0, 1, 3, 1, 1},
		1024:        {0, 1, 0, 1},
		1536:        {11, 2, 0, 1, 0, 0, 0, 0, 1},
		1860:        {4, 2, 1, 0, 1, 0, 0, 0, 0, 0, 2},
		46872:       {5, 4, 0, 2, 0, 1, 1, 1, 1, 1},
		390625:      {0, 0, 8},
		720720:      {6, 3, 1, 2, 2, 2, 1, 1, 1, 1, 1},
		44569782:    {3, 0, 0, 0, 0, 0, 1, 6},
		154472232:   {5, 2, 0, 1, 0, 0, 0, 0, 6},
		194871710:   {0, 0, 1, 0, 8},
		217238121:   {1, 0, 0, 0, 0, 0, 7},
		232792560:   {6, 3, 1, 2, 2, 2, 2, 2, 1, 1, 1},
		244140625:   {0, 0, 12},
		287156086:   {0, 0, 0, 0, 0, 1, 0, 0, 0, 6},
		322828856:   {0, 1, 0, 10, 0, 1, 0, 0, 0, 1},
		439239619:   {0, 0, 0, 0, 0, 8},
		697378500:   {4, 3, 3, 0, 1, 3, 1, 1, 0, 1, 1},
		805306368:   {30, 2, 0, 1, 0, 0, 0, 0, 1},
		858874530:   {3, 0, 1, 0, 1, 0, 0, 0, 0, 0, 6},
		999999996:   {4, 2},
		999999999:   {1, 0, 0, 0, 0, 0, 1},
		impl.MaxFar: {0, 1, 9, 1, 1},
	}
	for place, times := range known {
		for i, want := range times {
			checkTimesAt(t, place, countingPrimes()[i], want)
		}
	}
}

func TestPromise38AnythingElseIsNotDivided(t *testing.T) {
	checkNothingCounted(t, "TimesAt", impl.MaxFar, impl.TimesAt)
	for _, prime := range countingPrimes() {
		checkTimesAt(t, 0, prime, -1)
		rank := fibRank(t, prime)
		checkTimesAt(t, -rank, prime, -1)
		checkTimesAt(t, (impl.MaxFar/rank+1)*rank, prime, -1)
	}
	checkTimesAt(t, 19, 37, -1)
}

func TestPromise39ThePrimeDividesSoOftenThereAndAtNoDivisor(t *testing.T) {
	for _, prime := range countingPrimes() {
		for times := 1; times <= exponentAtMost; times++ {
			place := powerRank(t, prime, times)
			if got := timesByLeft(t, place, prime); got < times {
				t.Errorf("PowerRank(%d, %d) is %d, but there it divides %d times", prime, times, place, got)
			}
			for _, divisor := range properDivisors(place) {
				if got := timesByLeft(t, divisor, prime); got >= times {
					t.Errorf("PowerRank(%d, %d) is %d, but at %d it divides %d times", prime, times, place, divisor, got)
				}
			}
		}
	}
}

func TestPromise39TimesAtTellsSo(t *testing.T) {
	check := func(place, prime, times int, often bool) {
		if place > impl.MaxFar {
			checkTimesAt(t, place, prime, -1)
			return
		}
		if got := impl.TimesAt(place, prime); (got >= times) != often {
			t.Errorf("TimesAt(%d, %d) is %d, though PowerRank(%d, %d) is %d", place, prime, got, prime, times, impl.PowerRank(prime, times))
		}
	}
	for _, prime := range countingPrimes() {
		for times := 1; times <= exponentAtMost; times++ {
			place := powerRank(t, prime, times)
			check(place, prime, times, true)
			for _, divisor := range properDivisors(place) {
				check(divisor, prime, times, false)
			}
		}
	}
}

// Places are gone through here one by one, up to those of which the whole number is made.
func TestPromise39NoLessPlaceIsDividedSoOften(t *testing.T) {
	row := wholeRow(fibonacci, 0, 1, wholeCounted)
	for _, prime := range countingPrimes() {
		times := 1
		for place := 1; place <= wholeCounted; place++ {
			for ; times <= exponentAtMost && wholeTimes(row[place], prime) >= times; times++ {
				checkPowerRank(t, prime, times, place)
			}
		}
		for ; times <= exponentAtMost; times++ {
			if got := impl.PowerRank(prime, times); got <= wholeCounted {
				t.Errorf("PowerRank(%d, %d) is %d", prime, times, got)
			}
		}
	}
}

func TestPromise39PowersWithARank(t *testing.T) {
	eachPower(impl.MaxRanked, func(prime, exponent, power int) {
		if exponent > 0 {
			checkPowerRank(t, prime, exponent, rankOf(t, fibonacci, power))
		}
	})
	for _, prime := range countingPrimes() {
		checkPowerRank(t, prime, 1, impl.FibRank(prime))
	}
}

// The numbers here were made apart from the program, for the exponents from 1 up to 9; those of the primes from 11 on are greater than MaxFar in the end.
func TestPromise39KnownRanks(t *testing.T) {
	known := map[int][exponentAtMost]int{
		2:  {3, 6, 6, 12, 24, 48, 96, 192, 384},
		3:  {4, 12, 36, 108, 324, 972, 2916, 8748, 26244},
		5:  {5, 25, 125, 625, 3125, 15625, 78125, 390625, 1953125},
		7:  {8, 56, 392, 2744, 19208, 134456, 941192, 6588344, 46118408},
		11: {10, 110, 1210, 13310, 146410, 1610510, 17715610, 194871710, 2143588810},
		13: {7, 91, 1183, 15379, 199927, 2599051, 33787663, 439239619, 5710115047},
		17: {9, 153, 2601, 44217, 751689, 12778713, 217238121, 3693048057, 62781816969},
		19: {18, 342, 6498, 123462, 2345778, 44569782, 846825858, 16089691302, 305704134738},
		23: {24, 552, 12696, 292008, 6716184, 154472232, 3552861336, 81715810728, 1879463646744},
		29: {14, 406, 11774, 341446, 9901934, 287156086, 8327526494, 241498268326, 7003449781454},
		31: {30, 930, 28830, 893730, 27705630, 858874530, 26625110430, 825378423330, 25586731123230},
	}
	for prime, places := range known {
		for i, want := range places {
			checkPowerRank(t, prime, i+1, want)
		}
	}
}

func TestPromise39AnythingElseHasNoRank(t *testing.T) {
	badExponents := append(outside(1, exponentAtMost), -9, -1, 0, 10, 11, 31)
	for _, times := range badExponents {
		for _, prime := range append(countingPrimes(), fewNotCounting()...) {
			checkPowerRank(t, prime, times, -1)
		}
	}
	for _, prime := range notCounting() {
		for times := 1; times <= exponentAtMost; times++ {
			checkPowerRank(t, prime, times, -1)
		}
	}
}

// What was asked before changes nothing: it is asked here in both orders, with what is refused between.
func TestChapter9KeepsNothingBetweenCalls(t *testing.T) {
	type answers [4]int
	ask := func(prime, times int) answers {
		return answers{impl.PowerRank(prime, times), impl.FibRank(prime), impl.TimesAt(12*times, prime), impl.TimesIn(12*times, prime)}
	}
	var told []answers
	for _, prime := range countingPrimes() {
		for times := exponentAtMost; times >= 1; times-- {
			told = append(told, ask(prime, times))
			ask(prime, times-10)
			ask(prime+30, times)
		}
	}
	at := 0
	for _, prime := range countingPrimes() {
		for i := range exponentAtMost {
			times := i + 1
			if got := ask(prime, times); got != told[at+exponentAtMost-times] {
				t.Errorf("of %d and %d was told %v, and then %v", prime, times, told[at+exponentAtMost-times], got)
			}
		}
		at += exponentAtMost
	}
}
