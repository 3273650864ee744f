package tests

import (
	"math/bits"
	"slices"
	"sort"
	"strconv"
	"strings"
	"testing"

	"loop.example/lucaspairs/impl"
)

// The greatest number of colours, and of ways that are told one by one.
const (
	coloursAtMost = 3
	waysAtMost    = 2000
)

// allLetters has those of squares, and behind them those of dominoes.
const allLetters = "abcABC"

// colours has how many colours there are of squares and of dominoes.
type colours struct{ squares, dominoes int }

func allColours() []colours {
	var all []colours
	for squares := 0; squares <= coloursAtMost; squares++ {
		for dominoes := 0; dominoes <= coloursAtMost; dominoes++ {
			all = append(all, colours{squares, dominoes})
		}
	}
	return all
}

// badColours has colours of which those of squares, those of dominoes, or both are outside 0..3.
func badColours() []colours {
	var bad []colours
	numbers := append(farNumbers(), -256, -4, -3, -2, -1, 4, 5, 6, 8, 252, 256, 257, 259)
	for _, number := range numbers {
		for good := 0; good <= coloursAtMost; good++ {
			bad = append(bad, colours{number, good}, colours{good, number})
		}
		bad = append(bad, colours{number, number}, colours{number, 4}, colours{-1, number})
	}
	return bad
}

// eachRow calls for all cells of a row and all colours.
func eachRow(call func(cells int, c colours)) {
	for _, c := range allColours() {
		for cells := 0; cells <= impl.MaxCells; cells++ {
			call(cells, c)
		}
	}
}

// placings has all ways to place dominoes on a row or on a ring of cells, without colours: the bit of a cell, the first one being that of 1, is 1 if a domino lies on it and on the next one, which is the first one behind the last one of a ring.
func placings(cells int, ring bool) []int {
	begins := cells - 1
	if ring {
		begins = cells
	}
	var all []int
	for placing := range 1 << max(begins, 0) {
		covered, apart := 0, true
		for cell := range cells {
			if placing>>cell&1 == 1 {
				under := 1<<cell | 1<<((cell+1)%cells)
				apart = apart && covered&under == 0
				covered |= under
			}
		}
		if apart {
			all = append(all, placing)
		}
	}
	return all
}

// colourings is how many ways there are to colour what dominoes are placed, and the squares on the other cells.
func colourings(cells, placing int, c colours) int {
	dominoes := bits.OnesCount(uint(placing))
	return power(c.dominoes, dominoes) * power(c.squares, cells-2*dominoes)
}

// placedRows counts ways by placings, those alone that may be cut behind so many cells.
func placedRows(cells, behind int, c colours) int {
	count := 0
	for _, placing := range placings(cells, false) {
		if behind == 0 || placing>>(behind-1)&1 == 0 {
			count += colourings(cells, placing, c)
		}
	}
	return count
}

func placedRings(cells int, c colours) int {
	count := 0
	for _, placing := range placings(cells, true) {
		count += colourings(cells, placing, c)
	}
	return count
}

// sortedWays has all ways, made by letters behind ways of fewer cells and put in order at the end.
func sortedWays(cells int, c colours) []string {
	rows := [][]string{{""}}
	for len(rows) <= cells {
		last := len(rows) - 1
		var row []string
		for colour := range c.squares {
			row = append(row, eachWith(rows[last], string(rune('a'+colour)))...)
		}
		for colour := range c.dominoes {
			if last >= 1 {
				row = append(row, eachWith(rows[last-1], string(rune('A'+colour)))...)
			}
		}
		rows = append(rows, row)
	}
	sort.Strings(rows[cells])
	return rows[cells]
}

func eachWith(ways []string, letter string) []string {
	var longer []string
	for _, way := range ways {
		longer = append(longer, way+letter)
	}
	return longer
}

// eachWay calls for all ways of at most so many of some letters, and for the places where each may be cut, as bits, the greatest of which is that of its cells.
func eachWay(most int, letters string, call func(way string, cuts int)) {
	var longer func(way string, cuts int)
	longer = func(way string, cuts int) {
		call(way, cuts)
		if len(way) == most {
			return
		}
		for i := range len(letters) {
			cells := bits.Len(uint(cuts))
			if letters[i] < 'a' {
				cells++
			}
			longer(way+letters[i:i+1], cuts|1<<cells)
		}
	}
	longer("", 1)
}

// badWays has texts that are no ways: of other letters, of bytes that are no letters, with something beside letters, and of too many letters.
func badWays() []string {
	bad := []string{
		"d", "D", "ad", "da", "aD", "Da", "aAd", "dAa", "AdA", "ADA", "abcd", "ABCD", "x", "z", "Z", "`", "@", "e", "E",
		" ", "a ", " a", "a b", "A A", "aA ", " aA", "\n", "a\n", "aA\n", "\t", "a\r\n", "-", "a-", "a,b", "aA.", "a|b", "0", "1", "2", "a1", "1a", "11", "?",
		"\x00", "a\x00", "\x00a", "a\x00A", "\xff", "a\xff", "\xffA", "\xe1", "\xc1", "\x81a", "\u00e1", "\u00c1", "\u0430", "\u0410", "\uff41", "a\u0301", "\ufeffa", "\U0001f600",
		"aaaaaaad", "daaaaaaa", "AAAAAAAD", "DAAAAAAA", "        ", "aaaa aaa", "\x00\x00\x00\x00\x00\x00\x00\x00",
	}
	for _, length := range []int{9, 10, 15, 16, 17, 18, 100, 255, 256, 257, 260, 264, 1 << 16, 1<<16 + 4, 1 << 20} {
		for _, piece := range []string{"a", "A", "c", "C", "aA", "Cb", "d", " ", "\x00", "\xff"} {
			bad = append(bad, strings.Repeat(piece, length)[:length])
		}
	}
	return bad
}

func checkColours(t *testing.T, c colours, want bool) {
	t.Helper()
	if got := impl.ColoursOk(c.squares, c.dominoes); got != want {
		t.Errorf("ColoursOk(%d, %d) is %v", c.squares, c.dominoes, got)
	}
}

// checkWays names only how many ways there are, and the first difference.
func checkWays(t *testing.T, cells int, c colours, want []string) {
	t.Helper()
	got := impl.WaysOf(cells, c.squares, c.dominoes)
	if slices.Equal(got, want) {
		return
	}
	t.Errorf("WaysOf(%d, %d, %d) are %d ways, not %d", cells, c.squares, c.dominoes, len(got), len(want))
	for i := range min(len(got), len(want)) {
		if got[i] != want[i] {
			t.Errorf("at %d there is %q, not %q", i, got[i], want[i])
			return
		}
	}
}

func checkCount(t *testing.T, cells int, c colours, want int) {
	t.Helper()
	if got := impl.CountWays(cells, c.squares, c.dominoes); got != want {
		t.Errorf("CountWays(%d, %d, %d) is %d, not %d", cells, c.squares, c.dominoes, got, want)
	}
}

func checkRings(t *testing.T, cells int, c colours, want int) {
	t.Helper()
	if got := impl.CountRings(cells, c.squares, c.dominoes); got != want {
		t.Errorf("CountRings(%d, %d, %d) is %d, not %d", cells, c.squares, c.dominoes, got, want)
	}
}

// checkCells and checkCut name only the beginning of a long text.
func checkCells(t *testing.T, way string, want int) {
	t.Helper()
	if got := impl.CellsOf(way); got != want {
		t.Errorf("CellsOf(%.60q), of %d bytes, is %d, not %d", way, len(way), got, want)
	}
}

func checkCut(t *testing.T, way string, cells int, want bool) {
	t.Helper()
	if got := impl.CutOk(way, cells); got != want {
		t.Errorf("CutOk(%.60q, %d), of %d bytes, is %v", way, cells, len(way), got)
	}
}

func checkCountCut(t *testing.T, cells, behind int, c colours, want int) {
	t.Helper()
	if got := impl.CountCut(cells, behind, c.squares, c.dominoes); got != want {
		t.Errorf("CountCut(%d, %d, %d, %d) is %d, not %d", cells, behind, c.squares, c.dominoes, got, want)
	}
}

func TestMaxCells(t *testing.T) {
	if impl.MaxCells != 8 {
		t.Errorf("MaxCells is %d", impl.MaxCells)
	}
}

func TestPromise45NoColoursAreColours(t *testing.T) {
	checkColours(t, colours{0, 0}, true)
	checkColours(t, colours{3, 3}, true)
	for _, c := range allColours() {
		checkColours(t, c, true)
	}
}

func TestPromise45OthersAreNoColours(t *testing.T) {
	for _, c := range []colours{{-1, 0}, {0, -1}, {-1, -1}, {4, 0}, {0, 4}, {4, 3}, {3, 4}, {4, 4}, {-1, 4}, {4, -1}} {
		checkColours(t, c, false)
	}
	for _, c := range badColours() {
		checkColours(t, c, false)
	}
	bad := outside(0, coloursAtMost)
	for _, one := range bad {
		for _, other := range bad {
			checkColours(t, colours{one, other}, false)
		}
		for good := 0; good <= coloursAtMost; good++ {
			checkColours(t, colours{one, good}, false)
			checkColours(t, colours{good, one}, false)
		}
	}
}

func TestPromise46AllWaysAreToldInOrder(t *testing.T) {
	eachRow(func(cells int, c colours) {
		count := impl.CountWays(cells, c.squares, c.dominoes)
		ways := impl.WaysOf(cells, c.squares, c.dominoes)
		if count > waysAtMost {
			count = 0
		}
		if len(ways) != count {
			t.Errorf("WaysOf(%d, %d, %d) are %d ways, not %d", cells, c.squares, c.dominoes, len(ways), count)
		}
		for i, way := range ways {
			checkCells(t, way, cells)
			if i > 0 && ways[i-1] >= way {
				t.Errorf("WaysOf(%d, %d, %d) has %q ahead of %q", cells, c.squares, c.dominoes, ways[i-1], way)
			}
		}
	})
}

func TestPromise46NoWayIsLeftOut(t *testing.T) {
	eachRow(func(cells int, c colours) {
		want := sortedWays(cells, c)
		if len(want) > waysAtMost {
			want = nil
		}
		checkWays(t, cells, c, want)
	})
}

// No row has just 2000 ways: the one below with the most has 1763, and the one above with the fewest has 2187.
func TestPromise46OnlyUpToTwoThousandWaysAreTold(t *testing.T) {
	told := []struct{ cells, squares, dominoes, ways int }{
		{6, 3, 2, 1763}, {7, 2, 3, 1640}, {6, 3, 1, 1189}, {8, 2, 1, 985},
		{7, 3, 0, 0}, {8, 2, 2, 0}, {6, 3, 3, 0}, {7, 3, 1, 0}, {8, 2, 3, 0}, {8, 3, 0, 0}, {8, 3, 3, 0},
	}
	for _, row := range told {
		if got := len(impl.WaysOf(row.cells, row.squares, row.dominoes)); got != row.ways {
			t.Errorf("WaysOf(%d, %d, %d) are %d ways, not %d", row.cells, row.squares, row.dominoes, got, row.ways)
		}
	}
}

// There is one way to lay no cells, whatever colours there are, and none to lay any without colours.
func TestPromise46NoCellsAndNoColours(t *testing.T) {
	for _, c := range allColours() {
		checkWays(t, 0, c, []string{""})
		checkWays(t, 1, c, []string{"a", "b", "c"}[:c.squares])
	}
	for cells := 1; cells <= impl.MaxCells; cells++ {
		checkWays(t, cells, colours{0, 0}, nil)
		checkWays(t, cells, colours{1, 0}, []string{strings.Repeat("a", cells)})
		if cells%2 == 1 {
			checkWays(t, cells, colours{0, 1}, nil)
			checkWays(t, cells, colours{0, 3}, nil)
		} else {
			checkWays(t, cells, colours{0, 1}, []string{strings.Repeat("A", cells/2)})
		}
	}
}

// The ways here were made apart from the program.
func TestPromise46KnownWays(t *testing.T) {
	checkWays(t, 2, colours{2, 2}, []string{"A", "B", "aa", "ab", "ba", "bb"})
	checkWays(t, 3, colours{1, 1}, []string{"Aa", "aA", "aaa"})
	checkWays(t, 3, colours{2, 1}, []string{"Aa", "Ab", "aA", "aaa", "aab", "aba", "abb", "bA", "baa", "bab", "bba", "bbb"})
	checkWays(t, 3, colours{1, 3}, []string{"Aa", "Ba", "Ca", "aA", "aB", "aC", "aaa"})
	checkWays(t, 4, colours{1, 1}, []string{"AA", "Aaa", "aAa", "aaA", "aaaa"})
	checkWays(t, 4, colours{0, 2}, []string{"AA", "AB", "BA", "BB"})
	checkWays(t, 5, colours{1, 1}, []string{"AAa", "AaA", "Aaaa", "aAA", "aAaa", "aaAa", "aaaA", "aaaaa"})
	known := []struct {
		cells int
		c     colours
		ways  map[int]string
	}{
		{7, colours{2, 3}, map[int]string{0: "AAAa", 1: "AAAb", 2: "AABa", 3: "AABb", 500: "CbCB", 1000: "abaaaC", 1500: "bbCBa", 1639: "bbbbbbb"}},
		{6, colours{3, 2}, map[int]string{0: "AAA", 1: "AAB", 2: "AAaa", 3: "AAab", 500: "abAba", 1000: "bbAcc", 1500: "cbBac", 1762: "cccccc"}},
	}
	for _, k := range known {
		ways := impl.WaysOf(k.cells, k.c.squares, k.c.dominoes)
		for i, want := range k.ways {
			if i >= len(ways) || ways[i] != want {
				t.Errorf("WaysOf(%d, %d, %d) has not %q at %d", k.cells, k.c.squares, k.c.dominoes, want, i)
			}
		}
	}
}

func TestPromise46WaysAreNewMemory(t *testing.T) {
	for _, cells := range upTo(1, 6) {
		checkNewMemory(t, "WaysOf", func() []string { return impl.WaysOf(cells, 3, 2) })
	}
	checkNewMemory(t, "WaysOf", func() []string { return impl.WaysOf(7, 2, 3) })
	checkNewMemory(t, "WaysOf", func() []string { return impl.WaysOf(8, 0, 1) })
}

func TestPromise46OtherRowsHaveNoWays(t *testing.T) {
	for _, cells := range append(outside(0, impl.MaxCells), -1, 9) {
		for _, c := range allColours() {
			checkWays(t, cells, c, nil)
		}
	}
	for _, c := range badColours() {
		for _, cells := range append(farNumbers(), upTo(-2, impl.MaxCells+2)...) {
			checkWays(t, cells, c, nil)
		}
	}
}

func TestPromise47RowsAreNumbersOfAFirstRow(t *testing.T) {
	eachRow(func(cells int, c colours) {
		checkCount(t, cells, c, firstAt(t, impl.Pair{P: c.squares, Q: -c.dominoes}, cells+1))
	})
}

func TestPromise47CountsAreAsByPlacings(t *testing.T) {
	eachRow(func(cells int, c colours) {
		checkCount(t, cells, c, placedRows(cells, 0, c))
	})
}

// The numbers here were made apart from the program, by all ways, for 0 cells and more.
func TestPromise47KnownCounts(t *testing.T) {
	known := map[colours][impl.MaxCells + 1]int{
		{0, 0}: {1}, {0, 1}: {1, 0, 1, 0, 1, 0, 1, 0, 1}, {0, 2}: {1, 0, 2, 0, 4, 0, 8, 0, 16}, {0, 3}: {1, 0, 3, 0, 9, 0, 27, 0, 81},
		{1, 0}: {1, 1, 1, 1, 1, 1, 1, 1, 1}, {1, 1}: {1, 1, 2, 3, 5, 8, 13, 21, 34},
		{1, 2}: {1, 1, 3, 5, 11, 21, 43, 85, 171}, {1, 3}: {1, 1, 4, 7, 19, 40, 97, 217, 508},
		{2, 0}: {1, 2, 4, 8, 16, 32, 64, 128, 256}, {2, 1}: {1, 2, 5, 12, 29, 70, 169, 408, 985},
		{2, 2}: {1, 2, 6, 16, 44, 120, 328, 896, 2448}, {2, 3}: {1, 2, 7, 20, 61, 182, 547, 1640, 4921},
		{3, 0}: {1, 3, 9, 27, 81, 243, 729, 2187, 6561}, {3, 1}: {1, 3, 10, 33, 109, 360, 1189, 3927, 12970},
		{3, 2}: {1, 3, 11, 39, 139, 495, 1763, 6279, 22363}, {3, 3}: {1, 3, 12, 45, 171, 648, 2457, 9315, 35316},
	}
	for c, counts := range known {
		for cells, want := range counts {
			checkCount(t, cells, c, want)
		}
	}
}

func TestPromise47OtherRowsAreNotCounted(t *testing.T) {
	for _, cells := range append(outside(0, impl.MaxCells), -1, 9) {
		for _, c := range allColours() {
			checkCount(t, cells, c, -1)
		}
	}
	for _, c := range badColours() {
		for _, cells := range append(farNumbers(), upTo(-2, impl.MaxCells+2)...) {
			checkCount(t, cells, c, -1)
		}
	}
}

func TestPromise48RingsAreNumbersOfASecondRow(t *testing.T) {
	for _, c := range allColours() {
		for cells := 2; cells <= impl.MaxCells; cells++ {
			checkRings(t, cells, c, secondAt(t, impl.Pair{P: c.squares, Q: -c.dominoes}, cells))
		}
	}
}

// On a ring of 2 cells a domino lies in two ways: it may begin on each of them.
func TestPromise48RingsAreAsByPlacings(t *testing.T) {
	for _, c := range allColours() {
		for cells := 2; cells <= impl.MaxCells; cells++ {
			checkRings(t, cells, c, placedRings(cells, c))
		}
		checkRings(t, 2, c, c.squares*c.squares+2*c.dominoes)
	}
}

func TestPromise48RingsAreRowsAndThoseClosedByADomino(t *testing.T) {
	for _, c := range allColours() {
		for cells := 2; cells <= impl.MaxCells; cells++ {
			row, fewer := impl.CountWays(cells, c.squares, c.dominoes), impl.CountWays(cells-2, c.squares, c.dominoes)
			checkRings(t, cells, c, row+c.dominoes*fewer)
		}
	}
}

// The numbers here were made apart from the program, by all rings, for 2 cells and more.
func TestPromise48KnownRings(t *testing.T) {
	known := map[colours][impl.MaxCells - 1]int{
		{0, 0}: {}, {0, 1}: {2, 0, 2, 0, 2, 0, 2}, {0, 2}: {4, 0, 8, 0, 16, 0, 32}, {0, 3}: {6, 0, 18, 0, 54, 0, 162},
		{1, 0}: {1, 1, 1, 1, 1, 1, 1}, {1, 1}: {3, 4, 7, 11, 18, 29, 47},
		{1, 2}: {5, 7, 17, 31, 65, 127, 257}, {1, 3}: {7, 10, 31, 61, 154, 337, 799},
		{2, 0}: {4, 8, 16, 32, 64, 128, 256}, {2, 1}: {6, 14, 34, 82, 198, 478, 1154},
		{2, 2}: {8, 20, 56, 152, 416, 1136, 3104}, {2, 3}: {10, 26, 82, 242, 730, 2186, 6562},
		{3, 0}: {9, 27, 81, 243, 729, 2187, 6561}, {3, 1}: {11, 36, 119, 393, 1298, 4287, 14159},
		{3, 2}: {13, 45, 161, 573, 2041, 7269, 25889}, {3, 3}: {15, 54, 207, 783, 2970, 11259, 42687},
	}
	for c, rings := range known {
		for i, want := range rings {
			checkRings(t, i+2, c, want)
		}
	}
}

func TestPromise48OtherRingsAreNotCounted(t *testing.T) {
	for _, cells := range append(outside(2, impl.MaxCells), -2, -1, 0, 1, 9, 10) {
		for _, c := range allColours() {
			checkRings(t, cells, c, -1)
		}
	}
	for _, c := range badColours() {
		for _, cells := range append(farNumbers(), upTo(-2, impl.MaxCells+2)...) {
			checkRings(t, cells, c, -1)
		}
	}
}

func TestPromise49CellsOfBothPartsAreTogether(t *testing.T) {
	eachWay(5, allLetters, func(way string, _ int) {
		for at := range len(way) + 1 {
			if together := impl.CellsOf(way[:at]) + impl.CellsOf(way[at:]); together != impl.CellsOf(way) {
				t.Errorf("CellsOf(%q) is %d, but %d of both parts, cut at %d", way, impl.CellsOf(way), together, at)
			}
		}
	})
}

// With a further letter there may be too many.
func TestPromise49FurtherLettersAreFurtherCells(t *testing.T) {
	eachWay(6, allLetters, func(way string, _ int) {
		cells := impl.CellsOf(way)
		for _, square := range []string{"a", "b", "c"} {
			checkCells(t, way+square, cells+1)
			checkCells(t, square+way, cells+1)
		}
		for _, domino := range []string{"A", "B", "C"} {
			checkCells(t, way+domino, cells+2)
			checkCells(t, domino+way, cells+2)
		}
	})
	for _, way := range []string{"aaaaaaaa", "AAAAAAAA", "abcABCaA", "CCCCCCCc"} {
		for _, letter := range []string{"a", "b", "c", "A", "B", "C"} {
			checkCells(t, way+letter, -1)
			checkCells(t, letter+way, -1)
		}
	}
}

// The letters are at most MaxCells here, and the cells up to twice as many.
func TestPromise49AllWaysLayTheirCells(t *testing.T) {
	eachWay(impl.MaxCells, allLetters, func(way string, cuts int) {
		checkCells(t, way, bits.Len(uint(cuts))-1)
	})
}

func TestPromise49KnownCells(t *testing.T) {
	known := map[string]int{
		"": 0, "a": 1, "b": 1, "c": 1, "A": 2, "B": 2, "C": 2, "aA": 3, "Ca": 3, "aAb": 4, "abc": 3, "ABC": 6, "abcABC": 9,
		"aaaaaaa": 7, "aaaaaaaa": 8, "aaaaaaaaa": -1, "AAAA": 8, "AAAAA": 10, "AAAAAAAA": 16, "AAAAAAAAA": -1, "aAaAaAaA": 12, "CCCCCCCc": 15,
	}
	for way, want := range known {
		checkCells(t, way, want)
	}
}

func TestPromise49OtherTextsLayNoCells(t *testing.T) {
	for _, way := range badWays() {
		checkCells(t, way, -1)
	}
}

func TestPromise49EachBadByteLaysNoCells(t *testing.T) {
	for bad := range 256 {
		letter := string([]byte{byte(bad)})
		if strings.Contains(allLetters, letter) {
			continue
		}
		for _, way := range []string{"", "a", "A", "cB", "aAb", "CCCC", "abcABCa"} {
			for at := range len(way) + 1 {
				text := way[:at] + letter + way[at:]
				checkCells(t, text, -1)
				for cells := 0; cells <= len(text); cells++ {
					checkCut(t, text, cells, false)
				}
			}
		}
	}
}

func TestPromise50WaysMayBeCutAtBothEnds(t *testing.T) {
	eachWay(6, allLetters, func(way string, _ int) {
		checkCut(t, way, 0, true)
		checkCut(t, way, impl.CellsOf(way), true)
		if way != "" {
			checkCut(t, way, 1, !strings.ContainsAny(way[:1], "ABC"))
		}
	})
}

func TestPromise50WaysMayBeCutBetweenLettersAlone(t *testing.T) {
	check := func(way string, cuts int) {
		for cells := -1; cells <= 2*impl.MaxCells+1; cells++ {
			checkCut(t, way, cells, cells >= 0 && cuts>>cells&1 == 1)
		}
	}
	eachWay(6, allLetters, check)
	eachWay(impl.MaxCells, "aC", check)
	eachWay(impl.MaxCells, "cA", check)
}

// The empty way has no cell behind which it might be cut.
func TestPromise50KnownCuts(t *testing.T) {
	known := map[string]string{
		"": "1", "a": "11", "C": "101", "aA": "1101", "Aa": "1011", "aAb": "11011", "bb": "111", "BB": "10101", "abcABC": "1111010101",
		"aaaaaaaa": "111111111", "AAAAAAAA": "10101010101010101", "AAAAAAAc": "1010101010101011", "cAAAAAAA": "1101010101010101",
	}
	for way, cuts := range known {
		for cells, cut := range cuts {
			checkCut(t, way, cells, cut == '1')
		}
		for _, cells := range append(farNumbers(), -256, -2, -1, len(cuts), len(cuts)+1, len(cuts)+2, 256, 257) {
			checkCut(t, way, cells, false)
		}
	}
}

func TestPromise50OtherTextsMayNotBeCut(t *testing.T) {
	for _, way := range badWays() {
		for _, cells := range append(farNumbers(), upTo(-2, 40)...) {
			checkCut(t, way, cells, false)
		}
		checkCut(t, way, len(way), false)
		checkCut(t, way, 2*len(way), false)
	}
}

func TestPromise51CutsAddUpToTheSumOfPlaces(t *testing.T) {
	eachRow(func(cells int, c colours) {
		for behind := 1; behind < cells; behind++ {
			across := impl.CountWays(behind-1, c.squares, c.dominoes) * impl.CountWays(cells-behind-1, c.squares, c.dominoes)
			checkCount(t, cells, c, impl.CountCut(cells, behind, c.squares, c.dominoes)+c.dominoes*across)
		}
	})
}

func TestPromise51CutsAreWaysThatMayBeCut(t *testing.T) {
	eachRow(func(cells int, c colours) {
		ways := impl.WaysOf(cells, c.squares, c.dominoes)
		if impl.CountWays(cells, c.squares, c.dominoes) > waysAtMost {
			return
		}
		for behind := 0; behind <= cells; behind++ {
			count := 0
			for _, way := range ways {
				if impl.CutOk(way, behind) {
					count++
				}
			}
			checkCountCut(t, cells, behind, c, count)
		}
	})
}

// Rows with too many ways to be told are counted here, too.
func TestPromise51CutsAreAsByPlacings(t *testing.T) {
	eachRow(func(cells int, c colours) {
		for behind := 0; behind <= cells; behind++ {
			checkCountCut(t, cells, behind, c, placedRows(cells, behind, c))
			checkCountCut(t, cells, cells-behind, c, placedRows(cells, behind, c))
		}
	})
}

func TestPromise51AllWaysMayBeCutAtBothEnds(t *testing.T) {
	eachRow(func(cells int, c colours) {
		count := impl.CountWays(cells, c.squares, c.dominoes)
		checkCountCut(t, cells, 0, c, count)
		checkCountCut(t, cells, cells, c, count)
	})
}

// The numbers here were made apart from the program, by all ways.
func TestPromise51KnownCuts(t *testing.T) {
	known := []struct{ cells, behind, squares, dominoes, count int }{
		{0, 0, 0, 0, 1}, {1, 0, 0, 3, 0}, {1, 1, 2, 3, 2}, {2, 1, 1, 1, 1}, {2, 1, 0, 3, 0}, {2, 1, 3, 0, 9}, {4, 2, 1, 1, 4},
		{4, 1, 0, 2, 0}, {4, 2, 0, 2, 4}, {5, 2, 2, 1, 60}, {6, 3, 3, 3, 2025}, {7, 3, 2, 3, 1220}, {8, 4, 1, 1, 25}, {8, 4, 3, 3, 29241},
		{8, 1, 3, 2, 18837}, {8, 7, 3, 2, 18837}, {8, 0, 3, 3, 35316}, {8, 8, 3, 3, 35316}, {8, 3, 0, 3, 0}, {8, 6, 0, 3, 81},
	}
	for _, k := range known {
		checkCountCut(t, k.cells, k.behind, colours{k.squares, k.dominoes}, k.count)
	}
}

func TestPromise51OtherCutsAreNotCounted(t *testing.T) {
	eachRow(func(cells int, c colours) {
		for _, behind := range append(outside(0, cells), -1, cells+1) {
			checkCountCut(t, cells, behind, c, -1)
		}
	})
	for _, cells := range append(outside(0, impl.MaxCells), -1, 9) {
		for _, c := range allColours() {
			for _, behind := range append(farNumbers(), -9, -1, 0, 1, 4, 8, 9, cells-1, cells, cells+1, cells/2, cells-impl.MaxCells) {
				checkCountCut(t, cells, behind, c, -1)
			}
		}
	}
	for _, c := range badColours() {
		for cells := -2; cells <= impl.MaxCells+2; cells++ {
			for behind := -2; behind <= cells+2; behind++ {
				checkCountCut(t, cells, behind, c, -1)
			}
		}
		for _, far := range farNumbers() {
			checkCountCut(t, far, far, c, -1)
			checkCountCut(t, far, 0, c, -1)
			checkCountCut(t, 4, far, c, -1)
		}
	}
}

// What was asked before changes nothing: it is asked here upwards and downwards, with what is refused between.
func TestChapter11KeepsNothingBetweenCalls(t *testing.T) {
	ask := func(cells int, c colours) string {
		answer := strings.Join(impl.WaysOf(cells, c.squares, c.dominoes), " ")
		for behind := -1; behind <= cells+1; behind++ {
			answer += " " + strconv.Itoa(impl.CountCut(cells, behind, c.squares, c.dominoes))
			answer += " " + strconv.FormatBool(impl.CutOk("aAbBcC", behind))
		}
		rings := strconv.Itoa(impl.CountRings(cells, c.squares, c.dominoes))
		return answer + " " + rings + " " + strconv.Itoa(impl.CellsOf(strings.Repeat("aA", cells)))
	}
	told := map[colours][]string{}
	eachRow(func(cells int, c colours) {
		told[c] = append(told[c], ask(cells, c))
		ask(cells, colours{c.squares + 4, c.dominoes})
		ask(cells, colours{c.squares, -1 - c.dominoes})
		ask(cells+impl.MaxCells+1, c)
	})
	for _, c := range slices.Backward(allColours()) {
		for cells := impl.MaxCells; cells >= 0; cells-- {
			if got := ask(cells, c); got != told[c][cells] {
				t.Errorf("of %d cells and %v was told %.60q, and then %.60q", cells, c, told[c][cells], got)
			}
		}
	}
}
