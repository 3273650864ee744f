package tests

import (
	"math"
	"slices"
	"strconv"
	"strings"
	"testing"

	"loop.example/lucaspairs/impl"
)

// The greatest number of CircleOf, that of ShiftedBy, by how many places it is shifted at most, and how many letters the text of MaxWritten has.
const (
	circledAtMost  = 100
	shiftedAtMost  = 1000
	placesAtMost   = 3
	lettersWritten = 19
)

// fibonacciNumbers has the numbers of Fibonacci up to a place.
func fibonacciNumbers(last int) []int {
	row := []int{0, 1}
	for len(row) <= last {
		row = append(row, row[len(row)-1]+row[len(row)-2])
	}
	return row
}

// aboutFibonacci has 0, 1, 2 and the greatest number, and each number of Fibonacci and those one less and one more, up to the greatest number.
func aboutFibonacci(most int) []int {
	numbers := []int{0, 1, 2, most}
	for _, number := range fibonacciNumbers(30)[3:] {
		for n := number - 1; n <= number+1 && n <= most; n++ {
			numbers = append(numbers, n)
		}
	}
	return numbers
}

// apartBits has all texts of noughts and ones up to so many letters, no two ones beside each other and no nought ahead, in the order of binary numbers: so each is that of the next number, from 0 on, and no number of Fibonacci is needed.
func apartBits(letters int) []string {
	var texts []string
	for bits := range 1 << letters {
		if bits&(bits>>1) == 0 {
			texts = append(texts, strconv.FormatInt(int64(bits), 2))
		}
	}
	return texts
}

// placesInText has the places of the ones of a text, of which the last letter has the place 2.
func placesInText(text string) []int {
	var places []int
	for i, letter := range text {
		if letter == '1' {
			places = append(places, len(text)+1-i)
		}
	}
	return places
}

// circleByFormula multiplies by places without any places: 3 times both, less each one times the other one and 1 more, divided by the square of the golden number and rounded down.
func circleByFormula(a, b int) int {
	return 3*a*b - a*underSquare(b+1) - b*underSquare(a+1)
}

// underSquare is a number from 1 on divided by the square of the golden number, rounded down: half of 3 times it less the root of 5 times its square, which is no whole number.
func underSquare(n int) int {
	return (3*n - rootOf(5*n*n) - 1) / 2
}

// shiftedByFormula makes all places one greater without any places: the number and 1 more, times the golden number, rounded down, less 1.
func shiftedByFormula(n int) int {
	return (n+1+rootOf(5*(n+1)*(n+1)))/2 - 1
}

// rootOf is the square root of a number from 0 on, rounded down.
func rootOf(n int) int {
	root := int(math.Sqrt(float64(n)))
	for root*root > n {
		root--
	}
	for (root+1)*(root+1) <= n {
		root++
	}
	return root
}

func circleOf(t *testing.T, a, b int) int {
	t.Helper()
	n, ok := impl.CircleOf(a, b)
	if !ok {
		t.Fatalf("CircleOf(%d, %d) is not told", a, b)
	}
	return n
}

func shiftedBy(t *testing.T, n, places int) int {
	t.Helper()
	shifted := impl.ShiftedBy(n, places)
	if shifted < 0 {
		t.Fatalf("ShiftedBy(%d, %d) is %d", n, places, shifted)
	}
	return shifted
}

func checkPlacesOf(t *testing.T, n int, want []int) {
	t.Helper()
	if got := impl.PlacesOf(n); !slices.Equal(got, want) {
		t.Errorf("PlacesOf(%d) are %v, not %v", n, got, want)
	}
}

func checkWritten(t *testing.T, n int, want string) {
	t.Helper()
	if got := impl.WrittenOf(n); got != want {
		t.Errorf("WrittenOf(%d) is %q, not %q", n, got, want)
	}
}

func checkRead(t *testing.T, text string, want int) {
	t.Helper()
	if n, ok := impl.ReadWritten(text); n != want || !ok {
		t.Errorf("ReadWritten(%q) is %d, %v, not %d", text, n, ok, want)
	}
}

// checkNotRead names only the beginning of a long text.
func checkNotRead(t *testing.T, text string) {
	t.Helper()
	if n, ok := impl.ReadWritten(text); n != -1 || ok {
		t.Errorf("ReadWritten(%.60q), of %d bytes, is %d, %v", text, len(text), n, ok)
	}
}

func checkCircle(t *testing.T, a, b, want int) {
	t.Helper()
	if n, ok := impl.CircleOf(a, b); n != want || !ok {
		t.Errorf("CircleOf(%d, %d) is %d, %v, not %d", a, b, n, ok, want)
	}
}

func checkNoCircle(t *testing.T, first, second []int) {
	t.Helper()
	for _, a := range first {
		for _, b := range second {
			if n, ok := impl.CircleOf(a, b); n != -1 || ok {
				t.Errorf("CircleOf(%d, %d) is %d, %v", a, b, n, ok)
			}
		}
	}
}

func checkShiftedBy(t *testing.T, n, places, want int) {
	t.Helper()
	if got := impl.ShiftedBy(n, places); got != want {
		t.Errorf("ShiftedBy(%d, %d) is %d, not %d", n, places, got, want)
	}
}

func TestMaxWritten(t *testing.T) {
	if impl.MaxWritten != 10000 {
		t.Errorf("MaxWritten is %d", impl.MaxWritten)
	}
}

func TestPromise40EachNumberIsWrittenInOneWay(t *testing.T) {
	row := fibonacciNumbers(21)
	for n := 0; n <= impl.MaxWritten; n++ {
		places := impl.PlacesOf(n)
		sum := 0
		for i, place := range places {
			if place < 2 || place > impl.MaxIndex || i > 0 && place > places[i-1]-2 {
				t.Fatalf("PlacesOf(%d) are %v", n, places)
			}
			sum += firstAt(t, fibonacci, place)
		}
		if sum != n {
			t.Fatalf("at PlacesOf(%d), %v, there is together %d", n, places, sum)
		}
		if n > 0 && row[places[0]+1] <= n {
			t.Errorf("PlacesOf(%d) are %v, but %d is not greater", n, places, row[places[0]+1])
		}
	}
}

// No number is found twice among the texts, and none is left out.
func TestPromise40AllPlacesInOrder(t *testing.T) {
	texts := apartBits(lettersWritten)
	if len(texts) <= impl.MaxWritten {
		t.Fatalf("there are only %d texts", len(texts))
	}
	for n, text := range texts[:impl.MaxWritten+1] {
		checkPlacesOf(t, n, placesInText(text))
	}
}

// A number of Fibonacci has one place; the number one less has every second place below it, and the one more has 2, too, if that is not beside it.
func TestPromise40NumbersOfFibonacciAndBesideThem(t *testing.T) {
	row := fibonacciNumbers(21)
	for place := 2; place <= 20; place++ {
		checkPlacesOf(t, row[place], []int{place})
		var less []int
		for below := place - 1; below >= 2; below -= 2 {
			less = append(less, below)
		}
		checkPlacesOf(t, row[place]-1, less)
		if place >= 4 {
			checkPlacesOf(t, row[place]+1, []int{place, 2})
		}
	}
}

// The places here were made apart from the program.
func TestPromise40KnownPlaces(t *testing.T) {
	known := map[int][]int{
		0: {}, 1: {2}, 2: {3}, 3: {4}, 4: {4, 2}, 5: {5}, 6: {5, 2}, 7: {5, 3}, 8: {6}, 11: {6, 4}, 12: {6, 4, 2},
		33: {8, 6, 4, 2}, 88: {10, 8, 6, 4, 2}, 89: {11}, 100: {11, 6, 4}, 143: {11, 9, 7, 5, 3}, 987: {16}, 1000: {16, 7},
		4180: {18, 16, 14, 12, 10, 8, 6, 4, 2}, 5000: {19, 15, 12, 10, 6, 3}, 6764: {19, 17, 15, 13, 11, 9, 7, 5, 3},
		6765: {20}, 6766: {20, 2}, 8000: {20, 16, 13, 7, 3}, 9999: {20, 18, 15, 9, 5, 2}, impl.MaxWritten: {20, 18, 15, 9, 5, 3},
	}
	for n, places := range known {
		checkPlacesOf(t, n, places)
	}
}

func TestPromise40PlacesAreNewMemory(t *testing.T) {
	for _, n := range []int{1, 11, 88, 100, 1000, 4180, impl.MaxWritten} {
		checkNewMemory(t, "PlacesOf", func() []int { return impl.PlacesOf(n) })
	}
}

func TestPromise40AnythingElseHasNoPlaces(t *testing.T) {
	for _, n := range append(outside(0, impl.MaxWritten), -impl.MaxWritten, -11, 10001, 10002, 10945, 10946, 17711) {
		checkPlacesOf(t, n, nil)
	}
}

func TestPromise41NoTwoOnesAreBesideEachOther(t *testing.T) {
	for n := 0; n <= impl.MaxWritten; n++ {
		text := impl.WrittenOf(n)
		if strings.Contains(text, "11") || strings.Trim(text, "01") != "" || text == "" {
			t.Errorf("WrittenOf(%d) is %q", n, text)
		}
		if n > 0 && !strings.HasPrefix(text, "1") {
			t.Errorf("WrittenOf(%d) does not begin with 1, but is %q", n, text)
		}
		checkRead(t, text, n)
	}
}

func TestPromise41AllTextsInOrder(t *testing.T) {
	for n, text := range apartBits(lettersWritten)[:impl.MaxWritten+1] {
		checkWritten(t, n, text)
	}
}

// A one is written for each place, and nothing else is one.
func TestPromise41OnesAreAtThePlaces(t *testing.T) {
	for n := 1; n <= impl.MaxWritten; n++ {
		checkPlacesOf(t, n, placesInText(impl.WrittenOf(n)))
	}
}

func TestPromise41NumbersOfFibonacciAndBesideThem(t *testing.T) {
	row := fibonacciNumbers(20)
	for place := 3; place <= 20; place++ {
		checkWritten(t, row[place], "1"+strings.Repeat("0", place-2))
		checkWritten(t, row[place]-1, strings.Repeat("10", 10)[:place-2])
		if place >= 4 {
			checkWritten(t, row[place]+1, "1"+strings.Repeat("0", place-3)+"1")
		}
	}
}

// The texts here were made apart from the program.
func TestPromise41KnownTexts(t *testing.T) {
	known := map[int]string{
		0: "0", 1: "1", 2: "10", 3: "100", 4: "101", 5: "1000", 6: "1001", 7: "1010", 8: "10000", 11: "10100", 12: "10101",
		20: "101010", 54: "10101010", 55: "100000000", 100: "1000010100", 986: "10101010101010", 987: "100000000000000",
		988: "100000000000001", 1000: "100000000100000", 5000: "100010010100010010", 6764: "101010101010101010",
		6765: "1000000000000000000", 6766: "1000000000000000001", 8000: "1000100100000100010",
		9999: "1010010000010001001", impl.MaxWritten: "1010010000010001010",
	}
	for n, text := range known {
		checkWritten(t, n, text)
		checkRead(t, text, n)
	}
}

func TestPromise41AnythingElseIsNotWritten(t *testing.T) {
	for _, n := range append(outside(0, impl.MaxWritten), -impl.MaxWritten, -11, 10001, 10002, 10945, 10946, 17711) {
		checkWritten(t, n, "")
	}
}

// All texts of noughts and ones are read here that are no longer than those that are written, and those that begin with a nought, too.
func TestPromise42ReadTextsAreCanonical(t *testing.T) {
	wanted := map[string]int{}
	for n, text := range apartBits(lettersWritten)[:impl.MaxWritten+1] {
		wanted[text] = n
	}
	check := func(text string) {
		n, ok := impl.ReadWritten(text)
		want, told := wanted[text]
		if !told {
			want = -1
		}
		if n != want || ok != told {
			t.Errorf("ReadWritten(%q) is %d, %v, not %d, %v", text, n, ok, want, told)
		}
		if ok && impl.WrittenOf(n) != text {
			t.Errorf("WrittenOf(%d) is %q, not %q", n, impl.WrittenOf(n), text)
		}
	}
	for letters := 1; letters <= lettersWritten; letters++ {
		for bits := range 1 << letters {
			check(strconv.FormatInt(int64(1<<letters|bits), 2)[1:])
		}
	}
}

// The texts here are of the right form, and the first ones have as many letters as that of MaxWritten.
func TestPromise42GreaterNumbersAreNotRead(t *testing.T) {
	texts := apartBits(lettersWritten + 4)
	checkRead(t, texts[impl.MaxWritten], impl.MaxWritten)
	for _, text := range texts[impl.MaxWritten+1:] {
		checkNotRead(t, text)
	}
	checkNotRead(t, "1010010000010010000")
	checkNotRead(t, "1010101010101010101")
	checkNotRead(t, "10000000000000000000")
}

func TestPromise42NoughtBehindMakesGreater(t *testing.T) {
	for n := 1; n <= shiftedAtMost; n++ {
		text := impl.WrittenOf(n) + "0"
		want := shiftedBy(t, n, 1)
		checkRead(t, text, want)
		if want <= n {
			t.Errorf("%q is %d, which is not greater than %d", text, want, n)
		}
	}
	checkNotRead(t, impl.WrittenOf(0)+"0")
}

func TestPromise42KnownNumbers(t *testing.T) {
	checkRead(t, "0", 0)
	checkRead(t, "1", 1)
	checkRead(t, "10", 2)
	checkRead(t, "101", 4)
	checkRead(t, "10100", 11)
	checkRead(t, "1000010100", 100)
	checkRead(t, "1010010000010001010", impl.MaxWritten)
}

// Of each text of a number, all that is nearly as it is refused.
func TestPromise42NearlyWrittenIsNotRead(t *testing.T) {
	for _, n := range append(aboutFibonacci(impl.MaxWritten), 11, 100, 5000, 8000, 9999) {
		text := impl.WrittenOf(n)
		for _, more := range []string{" ", "\n", "\r\n", "\t", "\x00", "+", "-", "a", ".", "\xff", "\u0660"} {
			checkNotRead(t, more+text)
			checkNotRead(t, text+more)
			checkNotRead(t, text[:1]+more+text[1:])
			checkNotRead(t, text[:len(text)-1]+more)
			checkNotRead(t, more+text[1:])
		}
		checkNotRead(t, "0"+text)
		checkNotRead(t, "00"+text)
		checkNotRead(t, "11"+text)
		checkNotRead(t, text+"11")
		checkNotRead(t, strings.Repeat("0", 20)+text)
		checkNotRead(t, strings.Repeat("0", 200)+text)
	}
}

func TestPromise42EachBadByteIsNotRead(t *testing.T) {
	for bad := range 256 {
		if bad == '0' || bad == '1' {
			continue
		}
		letter := string([]byte{byte(bad)})
		for _, text := range []string{letter, "1" + letter, letter + "1", "10" + letter, "1" + letter + "0", letter + "00", "100" + letter + "10", "10010" + letter} {
			checkNotRead(t, text)
		}
	}
}

func TestPromise42OtherTextsAreNotRead(t *testing.T) {
	texts := []string{
		"", "00", "01", "000", "001", "010", "011", "11", "110", "111", "1011", "1101", "1100", "0101", "2", "3", "9", "12", "20", "102",
		"4", "100 ", " 100", "1 0", "1,0", "-1", "+1", "-0", "+0", "0x1", "0b1", "1e0", "1.0", "1_0", "l0", "IO", "O", "o", "one",
		"\x00", "\x01", "\x00\x01", "\xff", "\xff\xfe", "\xc3\x28", "\xf0\x9f\x92\xa9", "\u0661", "\u0660", "\uff11", "\uff10", "1\u0660", "\ufeff1", "1\u200b",
	}
	for _, text := range texts {
		checkNotRead(t, text)
	}
}

// Far on, the numbers of Fibonacci run over, and may come near 0 again.
func TestPromise42LongTextsAreNotRead(t *testing.T) {
	lengths := append(upTo(20, 420), 1000, 1<<16, 1<<20)
	for _, length := range lengths {
		checkNotRead(t, "1"+strings.Repeat("0", length-1))
		checkNotRead(t, strings.Repeat("10", length)[:length])
		checkNotRead(t, "1"+strings.Repeat("0", length-2)+"1")
		checkNotRead(t, strings.Repeat("1", length))
		checkNotRead(t, strings.Repeat("0", length))
		checkNotRead(t, strings.Repeat("0", length-1)+"1")
		checkNotRead(t, strings.Repeat(" ", length-1)+"1")
		checkNotRead(t, strings.Repeat("\xff", length))
	}
}

func TestPromise43ProductsByPlacesAreSums(t *testing.T) {
	row := fibonacciNumbers(22)
	texts := apartBits(10)
	for a := 0; a <= circledAtMost; a++ {
		for b := 0; b <= circledAtMost; b++ {
			want := 0
			for _, one := range placesInText(texts[a]) {
				for _, other := range placesInText(texts[b]) {
					want += row[one+other]
				}
			}
			checkCircle(t, a, b, want)
			checkCircle(t, a, b, circleByFormula(a, b))
		}
	}
}

func TestPromise43ItIsTheSameExchanged(t *testing.T) {
	for a := 0; a <= circledAtMost; a++ {
		for b := 0; b <= a; b++ {
			checkCircle(t, a, b, circleOf(t, b, a))
		}
	}
}

// Both products that are made first are at most 100 here, so that they may be multiplied again.
func TestPromise43ProductsGoOnInAnyBrackets(t *testing.T) {
	asked := 0
	for a := 0; a <= circledAtMost; a++ {
		for b := 0; b <= circledAtMost; b++ {
			left := circleOf(t, a, b)
			if left > circledAtMost {
				continue
			}
			for c := 0; c <= circledAtMost; c++ {
				right := circleOf(t, b, c)
				if right > circledAtMost {
					continue
				}
				asked++
				if one, other := circleOf(t, left, c), circleOf(t, a, right); one != other {
					t.Errorf("of %d, %d and %d the product is %d, or %d", a, b, c, one, other)
				}
			}
		}
	}
	if asked < 10000 {
		t.Errorf("only %d brackets were asked", asked)
	}
}

func TestPromise43WithOneItHasPlacesTwoGreater(t *testing.T) {
	for n := 0; n <= circledAtMost; n++ {
		checkCircle(t, n, 1, shiftedBy(t, n, 2))
		checkCircle(t, 1, n, shiftedBy(t, n, 2))
		checkCircle(t, n, 2, shiftedBy(t, n, 3))
		checkCircle(t, n, 0, 0)
		checkCircle(t, 0, n, 0)
	}
}

// The numbers here were made apart from the program.
func TestPromise43KnownProducts(t *testing.T) {
	known := []struct{ a, b, product int }{
		{0, 0, 0}, {0, 1, 0}, {1, 1, 3}, {1, 2, 5}, {2, 2, 8}, {2, 3, 13}, {3, 3, 21}, {4, 4, 40}, {4, 7, 65}, {5, 5, 55}, {7, 7, 105},
		{7, 12, 188}, {10, 10, 220}, {12, 12, 336}, {20, 30, 1340}, {50, 50, 5600}, {54, 55, 6621}, {88, 88, 17424}, {88, 89, 17567},
		{89, 89, 17711}, {99, 99, 21879}, {0, 100, 0}, {1, 100, 262}, {2, 100, 424}, {99, 100, 22138}, {100, 100, 22400},
	}
	for _, k := range known {
		checkCircle(t, k.a, k.b, k.product)
		checkCircle(t, k.b, k.a, k.product)
	}
}

func TestPromise43AnythingElseIsNotMultiplied(t *testing.T) {
	bad := append(outside(0, circledAtMost), -1, 101, 102, 144, impl.MaxWritten)
	good := upTo(0, circledAtMost)
	checkNoCircle(t, bad, good)
	checkNoCircle(t, good, bad)
	checkNoCircle(t, bad, bad)
}

func TestPromise44ShiftedNumbersAddAsNumbersOfFibonacciDo(t *testing.T) {
	for n := 0; n <= shiftedAtMost; n++ {
		checkShiftedBy(t, n, 0, n)
		checkShiftedBy(t, n, 2, shiftedBy(t, n, 1)+n)
		checkShiftedBy(t, n, 3, shiftedBy(t, n, 2)+shiftedBy(t, n, 1))
		for places := 0; places <= placesAtMost; places++ {
			var want []int
			for _, place := range impl.PlacesOf(n) {
				want = append(want, place+places)
			}
			checkPlacesOf(t, shiftedBy(t, n, places), want)
		}
	}
}

func TestPromise44PlacesAreSoManyGreater(t *testing.T) {
	row := fibonacciNumbers(20)
	for n, text := range apartBits(15)[:shiftedAtMost+1] {
		for places := 0; places <= placesAtMost; places++ {
			want := 0
			for _, place := range placesInText(text) {
				want += row[place+places]
			}
			checkShiftedBy(t, n, places, want)
		}
		checkShiftedBy(t, n, 1, shiftedByFormula(n))
		checkShiftedBy(t, n, 2, shiftedByFormula(n)+n)
		checkShiftedBy(t, n, 3, 2*shiftedByFormula(n)+n)
	}
}

// Numbers of Fibonacci lead to such ones, and those one less to numbers that are less.
func TestPromise44NumbersOfFibonacciAndBesideThem(t *testing.T) {
	row := fibonacciNumbers(20)
	for place := 2; row[place] <= shiftedAtMost; place++ {
		for places := 0; places <= placesAtMost; places++ {
			checkShiftedBy(t, row[place], places, row[place+places])
			less := 0
			for below := place - 1; below >= 2; below -= 2 {
				less += row[below+places]
			}
			checkShiftedBy(t, row[place]-1, places, less)
		}
	}
}

// The numbers here were made apart from the program, for 0, 1, 2 and 3 places.
func TestPromise44KnownNumbers(t *testing.T) {
	known := map[int][placesAtMost + 1]int{
		0: {}, 1: {1, 2, 3, 5}, 2: {2, 3, 5, 8}, 3: {3, 5, 8, 13}, 4: {4, 7, 11, 18}, 7: {7, 11, 18, 29}, 12: {12, 20, 32, 52},
		54: {54, 87, 141, 228}, 55: {55, 89, 144, 233}, 100: {100, 162, 262, 424}, 376: {376, 608, 984, 1592},
		377: {377, 610, 987, 1597}, 500: {500, 809, 1309, 2118}, 986: {986, 1595, 2581, 4176}, 987: {987, 1597, 2584, 4181},
		999: {999, 1617, 2616, 4233}, shiftedAtMost: {1000, 1618, 2618, 4236},
	}
	for n, shifted := range known {
		for places, want := range shifted {
			checkShiftedBy(t, n, places, want)
		}
	}
}

func TestPromise44AnythingElseIsNotShifted(t *testing.T) {
	badNumbers := append(outside(0, shiftedAtMost), -1, 1001, 1002, 1596, 1597, impl.MaxWritten)
	badPlaces := append(outside(0, placesAtMost), -3, -2, -1, 4, 5, 20)
	check := func(numbers, places []int) {
		for _, n := range numbers {
			for _, by := range places {
				checkShiftedBy(t, n, by, -1)
			}
		}
	}
	check(badNumbers, upTo(0, placesAtMost))
	check(upTo(0, shiftedAtMost), badPlaces)
	check(badNumbers, badPlaces)
}

// What was asked before changes nothing: it is asked here upwards and downwards, with what is refused between.
func TestChapter10KeepsNothingBetweenCalls(t *testing.T) {
	ask := func(n int) string {
		read, _ := impl.ReadWritten(impl.WrittenOf(n))
		product, _ := impl.CircleOf(n%101, n%97)
		answer := impl.WrittenOf(n)
		for _, number := range append(impl.PlacesOf(n), read, product, impl.ShiftedBy(n, n%4)) {
			answer += " " + strconv.Itoa(number)
		}
		return answer
	}
	var told []string
	for n := 0; n <= 1500; n++ {
		told = append(told, ask(n))
		ask(-n - 1)
		ask(impl.MaxWritten + 1 + n)
	}
	for n := 1500; n >= 0; n-- {
		if got := ask(n); got != told[n] {
			t.Errorf("of %d was told %q, and then %q", n, told[n], got)
		}
	}
}
