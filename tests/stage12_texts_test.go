package tests

import (
	"maps"
	"slices"
	"strings"
	"testing"

	"loop.example/lucaspairs/impl"
)

// sortedTexts has the texts of all deeds in order.
func sortedTexts() []string {
	return slices.Sorted(maps.Keys(deedTexts()))
}

// noDeedTexts has texts that are those of no deeds: too few and too many pieces, other numbers, other letters, and something ahead, behind or between.
func noDeedTexts() []string {
	texts := []string{
		"", " ", "  ", "\n", "\t", "\r", "\x00", "-", "+", "0", "1", "1 2", "0 0", "3,2", ",",
		"take", "take ", "take  ", "take 1", "take 1 ", "take  1 2", "take 1  2", " take 1 2", "take 1 2 ", "take 1 2 3", "take 1 2 3 4", "take 1 2 take", "take12", "take1 2", "take 12", "take 1 2turn",
		"take +1 2", "take 1 +2", "take +0 0", "take 0 +0", "take -0 0", "take 0 -0", "take -0 -0", "take 01 2", "take 1 02", "take 00 0", "take 0 00", "take -01 2", "take 1 -02", "take 0-1 2", "take --1 2", "take 1 --2", "take - 1", "take 1 -", "take -1- 2", "take - 1 2",
		"take 10 0", "take 0 10", "take -10 0", "take 0 -10", "take 99 1", "take 1 11", "take 123456789 1", "take 1234567890 1", "take 1 1234567890", "take 4294967297 2", "take 2 4294967297", "take 18446744073709551617 2", "take 2 18446744073709551617", "take -18446744073709551615 2", "take 9223372036854775807 1", "take -9223372036854775808 1",
		"take 1.0 2", "take 1. 2", "take 0x1 2", "take 0b1 2", "take 1e0 2", "take 1_0 2", "take _1 2", "take 1, 2", "take 1,2", "take (1) 2", "take a b", "take x 2", "take 1 x", "take P Q", "take nan 0", "take one two", "take 1 \"2\"",
		"Take 1 2", "TAKE 1 2", "tAKE 1 2", "takE 1 2", "tak 1 2", "takes 1 2", "ttake 1 2", "ake 1 2", " 1 2", "turn 1 2", "up 1 2", "down 1 2", "back 1 2",
		"take\t1 2", "take 1\t2", "take 1 2\t", "\ttake 1 2", "take 1 2\r", "take 1 2\r\n", "take 1 2\n", "\ntake 1 2", "take 1\n2", "take\n1 2", "take 1 2\nturn", "take 1 2\x00", "take 1 \x002", "take\x001 2", "\x00take 1 2", "take 1 2\v", "take 1 2\f",
		"turn ", " turn", "turn  ", "turn 0", "turn 0 0", "turn -1", "turn\n", "\nturn", "turn\r", "turn\t", "Turn", "TURN", "tURN", "turN", "tur", "turnn", "tturn", "urn", "tu rn", "tu\nrn", "turn turn", "turn\nturn", "turn,", "turn.", "turn\x00", "turned",
		"up ", " up", "up 0", "up 0 0", "up 1", "up -1", "up\n", "up\r\n", "Up", "UP", "uP", "u", "p", "upp", "u p", "up up", "up,up", "upward", "+",
		"down ", " down", "down 0", "down 0 0", "down 1", "down\n", "Down", "DOWN", "dow", "downn", "do wn", "down down", "updown", "downup",
		"back ", " back", "back 0", "back 0 0", "back 1", "back\n", "Back", "BACK", "bac", "backk", "ba ck", "back back", "\"back\"",
		"pair", "weight", "first 12", "far 1 2", "circle 2 2", "ok", "not", "what", "none", "DkTurn", "take turn", "undo", "lay 1 2", "1 take 2", "1 2 take",
		"\xff", "\xfftake 1 2", "take 1 2\xff", "take\xff1 2", "take 1 \xff", "turn\xff", "\xffturn", "up\x80", "tak\xe9 1 2", "\xef\xbb\xbfturn",
		"take\u00a01 2", "take 1\u00a02", "take \u22121 2", "take \uff11 2", "take 1 \u0662", "\uff54urn", "\ufeffup", "up\u0301", "do\u0175n", "turn\u2028", "take\u20071 2", "b\u0430ck", "\U0001f600",
	}
	for _, length := range []int{11, 255, 256, 1 << 16, 1 << 20} {
		for _, piece := range []string{"turn", "up", "back ", "take 1 2 ", "take 1 2\n", "take", " ", "\n", "0", "-", "1 ", "a", "\x00", "\xff"} {
			texts = append(texts, strings.Repeat(piece, length/len(piece)+1))
		}
		texts = append(texts,
			"take 1 "+strings.Repeat("0", length)+"2", "take "+strings.Repeat("0", length)+" 0", "take "+strings.Repeat("1", length)+" 2", "take 1 -"+strings.Repeat("9", length), "take 1"+strings.Repeat(" ", length)+"2",
			"turn"+strings.Repeat(" ", length), strings.Repeat(" ", length)+"turn", "back"+strings.Repeat("\x00", length), "up"+strings.Repeat("\n", length), "take 1 2"+strings.Repeat(" 2", length))
	}
	return texts
}

// nearTexts calls for a text with each of its bytes left out, each byte put in at each place, and each byte changed to each other one.
func nearTexts(text string, call func(near string)) {
	for at := range len(text) + 1 {
		if at < len(text) {
			call(text[:at] + text[at+1:])
		}
		for letter := range 256 {
			one := string([]byte{byte(letter)})
			call(text[:at] + one + text[at:])
			if at < len(text) {
				call(text[:at] + one + text[at+1:])
			}
		}
	}
}

// journals has journals, line by line.
func journals() [][]string {
	texts := sortedTexts()
	var journal []string
	for i := range 300 {
		journal = append(journal, texts[(i*151+7)%len(texts)])
	}
	return [][]string{
		nil, {"turn"}, {"take 0 0"}, {"up", "down", "back", "turn"}, {"take 1 -1", "back"}, {"take -9 -9", "take 9 9", "take -4 4"},
		{"turn", "turn", "turn", "turn", "turn", "turn", "turn", "turn", "turn", "turn", "back", "back"}, texts, journal,
		journal[:impl.MaxLines-1], journal[40:][:impl.MaxLines], journal[:impl.MaxLines+1], journal[100:130],
	}
}

// linesTogether has each line with a newline behind it.
func linesTogether(lines []string) string {
	if len(lines) == 0 {
		return ""
	}
	return strings.Join(lines, "\n") + "\n"
}

func deedsOf(t *testing.T, lines []string) []impl.Deed {
	t.Helper()
	all := deedTexts()
	var list []impl.Deed
	for _, line := range lines {
		deed, ok := all[line]
		if !ok {
			t.Fatalf("%q is the text of no deed", line)
		}
		list = append(list, deed)
	}
	return list
}

// journalBy reads a journal apart from the program: what is cut at each newline, and last what has none.
func journalBy(all map[string]impl.Deed, text string) ([]impl.Deed, int) {
	var list []impl.Deed
	read := 0
	pieces := strings.Split(text, "\n")
	for _, line := range pieces[:len(pieces)-1] {
		deed, ok := all[line]
		if !ok {
			break
		}
		list = append(list, deed)
		read += len(line) + 1
	}
	return list, read
}

func checkDeedText(t *testing.T, deed impl.Deed, want string) {
	t.Helper()
	if got := impl.DeedText(deed); got != want {
		t.Errorf("DeedText(%v) is %q, not %q", deed, got, want)
	}
}

// checkReadDeed and checkNoDeed name only the beginning of a long text.
func checkReadDeed(t *testing.T, text string, want impl.Deed) {
	t.Helper()
	if got, ok := impl.ReadDeed(text); got != want || !ok {
		t.Errorf("ReadDeed(%.60q) is %v, %v, not %v", text, got, ok, want)
	}
}

func checkNoDeed(t *testing.T, text string) {
	t.Helper()
	if got, ok := impl.ReadDeed(text); got != (impl.Deed{}) || ok {
		t.Errorf("ReadDeed(%.60q), of %d bytes, is %v, %v", text, len(text), got, ok)
	}
}

func checkReadJournal(t *testing.T, text string, want []impl.Deed, wantRead int) {
	t.Helper()
	got, read := impl.ReadJournal(text)
	if read != wantRead || !slices.Equal(got, want) {
		t.Errorf("ReadJournal(%.60q), of %d bytes, are %d deeds of %d bytes, not %d of %d", text, len(text), len(got), read, len(want), wantRead)
	}
}

func checkJournalText(t *testing.T, list []impl.Deed, want string) {
	t.Helper()
	given := slices.Clone(list)
	if got := impl.JournalText(list); got != want {
		t.Errorf("JournalText of %d deeds is %.60q, of %d bytes, not %.60q, of %d", len(list), got, len(got), want, len(want))
	}
	if !slices.Equal(list, given) {
		t.Errorf("JournalText writes to its %d deeds", len(list))
	}
}

func TestPromise58TextsOfDeedsAreRead(t *testing.T) {
	for _, deed := range deedTexts() {
		text := impl.DeedText(deed)
		if text == "" {
			t.Errorf("DeedText(%v) has no text", deed)
		}
		checkReadDeed(t, text, deed)
	}
}

func TestPromise58EachDeedHasItsText(t *testing.T) {
	for text, deed := range deedTexts() {
		checkDeedText(t, deed, text)
	}
	for kind, text := range []string{"take 0 0", "turn", "up", "down", "back"} {
		checkDeedText(t, impl.Deed{Kind: kind}, text)
	}
}

func TestPromise58KnownTexts(t *testing.T) {
	known := map[impl.Deed]string{
		take(3, 2): "take 3 2", take(-3, 2): "take -3 2", take(1, -1): "take 1 -1", take(0, 0): "take 0 0", take(-9, -9): "take -9 -9", take(9, 9): "take 9 9",
		take(-9, 9): "take -9 9", take(9, -9): "take 9 -9", take(5, 0): "take 5 0", take(0, -5): "take 0 -5", take(10, 0): "", take(0, -10): "", take(-10, 10): "",
		{Kind: impl.DkTurn}: "turn", {Kind: impl.DkUp}: "up", {Kind: impl.DkDown}: "down", {Kind: impl.DkBack}: "back",
		{Kind: impl.DkTurn, A: 1}: "", {Kind: impl.DkUp, B: 1}: "", {Kind: impl.DkDown, A: -1}: "", {Kind: impl.DkBack, A: 1, B: -1}: "", {Kind: 5}: "", {Kind: -1}: "",
	}
	for deed, text := range known {
		checkDeedText(t, deed, text)
	}
}

func TestPromise58OthersHaveNoText(t *testing.T) {
	for _, deed := range otherDeeds() {
		checkDeedText(t, deed, "")
	}
	for _, bad := range outside(-takenAtMost, takenAtMost) {
		for good := -takenAtMost; good <= takenAtMost; good++ {
			checkDeedText(t, take(bad, good), "")
			checkDeedText(t, take(good, bad), "")
		}
		checkDeedText(t, take(bad, bad), "")
	}
	for a := -takenAtMost; a <= takenAtMost; a++ {
		for b := -takenAtMost; b <= takenAtMost; b++ {
			for _, kind := range []int{-1, impl.DkTurn, impl.DkUp, impl.DkDown, impl.DkBack, 5, 6} {
				if a != 0 || b != 0 {
					checkDeedText(t, impl.Deed{Kind: kind, A: a, B: b}, "")
				}
			}
		}
	}
}

func TestPromise59ReadTextsAreCanonical(t *testing.T) {
	for text, deed := range deedTexts() {
		checkReadDeed(t, text, deed)
		checkDeedText(t, deed, text)
		for _, beside := range []string{" ", "  ", "\n", "\t", "\r", "\r\n", "\x00", "0", ".", "\xff"} {
			checkNoDeed(t, text+beside)
			checkNoDeed(t, beside+text)
		}
	}
}

func TestPromise59NearlyTextsAreNotRead(t *testing.T) {
	all := deedTexts()
	for text := range all {
		nearTexts(text, func(near string) {
			if deed, ok := all[near]; ok {
				checkReadDeed(t, near, deed)
			} else {
				checkNoDeed(t, near)
			}
		})
	}
}

// All that may be behind take is asked here, up to six letters: digits, signs, spaces and one that is no letter of a number.
func TestPromise59WhatIsBehindTake(t *testing.T) {
	all := deedTexts()
	const letters = "0189-+ x"
	var longer func(text string, more int)
	longer = func(text string, more int) {
		if deed, ok := all[text]; ok {
			checkReadDeed(t, text, deed)
		} else {
			checkNoDeed(t, text)
		}
		if more == 0 {
			return
		}
		for i := range len(letters) {
			longer(text+letters[i:i+1], more-1)
		}
	}
	longer("take", 3)
	longer("take ", 6)
	longer("turn", 3)
}

func TestPromise59OtherTextsAreNotRead(t *testing.T) {
	for _, text := range noDeedTexts() {
		checkNoDeed(t, text)
	}
}

func TestPromise60JournalsAreRead(t *testing.T) {
	for _, lines := range journals() {
		list := deedsOf(t, lines)
		text := linesTogether(lines)
		checkJournalText(t, list, text)
		checkReadJournal(t, impl.JournalText(list), list, len(text))
	}
}

func TestPromise60EachDeedInAJournal(t *testing.T) {
	for text, deed := range deedTexts() {
		checkJournalText(t, []impl.Deed{deed}, text+"\n")
		checkJournalText(t, []impl.Deed{deed, {Kind: impl.DkUp}, deed}, text+"\nup\n"+text+"\n")
		checkReadJournal(t, text+"\n", []impl.Deed{deed}, len(text)+1)
	}
}

func TestPromise60EmptyJournals(t *testing.T) {
	checkJournalText(t, nil, "")
	checkJournalText(t, []impl.Deed{}, "")
	checkReadJournal(t, "", nil, 0)
}

func TestPromise60OneWithoutATextLeavesNone(t *testing.T) {
	for _, bad := range otherDeeds() {
		checkJournalText(t, []impl.Deed{bad}, "")
	}
	for _, bad := range []impl.Deed{take(10, 0), take(0, -10), {Kind: impl.DkTurn, A: 1}, {Kind: impl.DkBack, B: -1}, {Kind: 5}, {Kind: -1}} {
		for _, lines := range journals() {
			list := deedsOf(t, lines)
			for at := 0; at <= len(list); at += 1 + len(list)/50 {
				checkJournalText(t, slices.Insert(slices.Clone(list), at, bad), "")
			}
			checkJournalText(t, append(slices.Clone(list), bad), "")
		}
	}
}

func TestPromise60LongJournals(t *testing.T) {
	for _, count := range []int{impl.MaxLines + 1, 256, 257, 1 << 16, 1<<16 + 1, 300000} {
		list := make([]impl.Deed, count)
		for i := range list {
			list[i] = impl.Deed{Kind: 1 + i%4}
		}
		list[count-1] = take(-9, -9)
		text := impl.JournalText(list)
		want := strings.Repeat("turn\nup\ndown\nback\n", count/4+1)
		if cut := len(text) - len("take -9 -9\n"); cut < 0 || text[:cut] != want[:cut] || text[cut:] != "take -9 -9\n" {
			t.Errorf("JournalText of %d deeds has %d bytes", count, len(text))
		}
		checkReadJournal(t, text, list, len(text))
		checkReadJournal(t, text+"turn", list, len(text))
		checkReadJournal(t, "turn "+text, nil, 0)
		list[count-1] = impl.Deed{Kind: impl.DkUp, B: 1}
		checkJournalText(t, list, "")
	}
}

func TestPromise60ReadDeedsAreNewMemory(t *testing.T) {
	for _, lines := range journals() {
		text := strings.ReplaceAll(linesTogether(lines), "take 0 0\n", "")
		if text != "" {
			checkNewMemory(t, "ReadJournal", func() []impl.Deed {
				list, _ := impl.ReadJournal(text)
				return list
			})
		}
	}
}

func TestPromise54WhatWasReadIsTheText(t *testing.T) {
	all := deedTexts()
	for _, lines := range journals() {
		whole := linesTogether(lines)
		for _, behind := range []string{"", "\n", " ", "turn", "take 1 2", "turn \n", "Turn\n", "turn\r\nup\n", "\nturn\n", "x\nback\n", "take 10 0\n", "take 1 2\x00\nup\n", "\xff\n", "weight\nturn\n", "turn\nup\n", "turn\nup", "back\n\nback\n"} {
			text := whole + behind
			list, read := impl.ReadJournal(text)
			if got := impl.JournalText(list); got != text[:read] {
				t.Errorf("of a journal with %q behind it %d bytes are read, but their text has %d", behind, read, len(got))
			}
			want, wantRead := journalBy(all, text)
			checkReadJournal(t, text, want, wantRead)
		}
	}
}

// Cut behind each of its bytes, a journal has the lines whose newline is there, and what is behind the last one is not read.
func TestPromise54WhereverAJournalIsCut(t *testing.T) {
	for _, lines := range journals() {
		text := linesTogether(lines)
		list := deedsOf(t, lines)
		for cut := range len(text) + 1 {
			beginning := text[:cut]
			checkReadJournal(t, beginning, list[:strings.Count(beginning, "\n")], strings.LastIndex(beginning, "\n")+1)
		}
	}
}

func TestPromise54WhereverAJournalIsCutADeskOfBeforeIsFound(t *testing.T) {
	text := linesTogether(journals()[8][:60])
	for _, d := range fewDesks() {
		var found []impl.Desk
		for cut := range len(text) + 1 {
			list, _ := impl.ReadJournal(text[:cut])
			if len(list) > impl.MaxLines {
				break
			}
			after, _ := impl.DeskRun(d, list)
			if len(list) < len(found) {
				checkDesk(t, "the desk of the same lines", after, found[len(list)])
				continue
			}
			found = append(found, after)
			want, _ := runBy(d, list)
			checkDesk(t, "the desk of the first lines", after, want)
		}
		if len(found) != impl.MaxLines+1 {
			t.Errorf("%d desks of before are found", len(found))
		}
	}
}

func TestPromise54SaidLineByLineItIsTheSame(t *testing.T) {
	for _, lines := range journals() {
		lines = lines[:min(len(lines), impl.MaxLines)]
		list, _ := impl.ReadJournal(linesTogether(lines))
		for _, d := range fewDesks() {
			want, count := impl.DeskRun(d, list)
			after, answers := impl.DeskSay(d, lines)
			checkDesk(t, "the desk that is said line by line", after, want)
			done := 0
			for _, answer := range answers {
				if answer == "ok" {
					done++
				} else if answer != "not" {
					t.Errorf("a deed is answered by %q", answer)
				}
			}
			if done != count || len(answers) != len(list) {
				t.Errorf("of %d deeds %d are answered, %d by ok, but %d are done", len(list), len(answers), done, count)
			}
		}
	}
}

func TestPromise54KnownJournals(t *testing.T) {
	turn, up, down, back := impl.Deed{Kind: impl.DkTurn}, impl.Deed{Kind: impl.DkUp}, impl.Deed{Kind: impl.DkDown}, impl.Deed{Kind: impl.DkBack}
	known := []struct {
		text string
		list []impl.Deed
		read int
	}{
		{"", nil, 0}, {"\n", nil, 0}, {"turn", nil, 0}, {"turn\n", []impl.Deed{turn}, 5}, {"turn\nup", []impl.Deed{turn}, 5}, {"turn\nup\n", []impl.Deed{turn, up}, 8},
		{"take 1 -1\nback\nup", []impl.Deed{take(1, -1), back}, 15}, {"turn\n\nup\n", []impl.Deed{turn}, 5}, {"\nturn\n", nil, 0}, {"turn \nup\n", nil, 0}, {"up\nturn \ndown\n", []impl.Deed{up}, 3},
		{"up\r\ndown\r\n", nil, 0}, {"up\ndown\r\n", []impl.Deed{up}, 3}, {"up\n\tdown\n", []impl.Deed{up}, 3}, {"up\nDown\nup\n", []impl.Deed{up}, 3}, {"up\ndown\npair\nback\n", []impl.Deed{up, down}, 8},
		{"take 1\n2\n", nil, 0}, {"take 9 -9\ntake 10 0\nup\n", []impl.Deed{take(9, -9)}, 10}, {"take 0 0\ntake -0 0\n", []impl.Deed{take(0, 0)}, 9}, {"take 0 0\ntake 1 2", []impl.Deed{take(0, 0)}, 9},
		{"back\nback\nback\n", []impl.Deed{back, back, back}, 15}, {"up\x00\n", nil, 0}, {"up\n\x00\n", []impl.Deed{up}, 3}, {"up\n\xff", []impl.Deed{up}, 3}, {"up up\n", nil, 0}, {"up\u2028down\n", nil, 0},
	}
	for _, k := range known {
		checkReadJournal(t, k.text, k.list, k.read)
	}
}

// A line that is no deed ends a journal, wherever it stands and whatever is behind it.
func TestPromise54OtherLinesAreNotRead(t *testing.T) {
	all := deedTexts()
	for _, bad := range noDeedTexts() {
		for _, text := range []string{bad, bad + "\n", "turn\n" + bad, "turn\n" + bad + "\n", "take -3 2\nup\n" + bad + "\nup\n"} {
			want, read := journalBy(all, text)
			checkReadJournal(t, text, want, read)
		}
	}
}
