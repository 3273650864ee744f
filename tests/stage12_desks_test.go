package tests

import (
	"fmt"
	"slices"
	"strings"
	"testing"

	"loop.example/lucaspairs/impl"
)

// takenAtMost bounds both numbers in the text of a deed, on either side of 0.
const takenAtMost = 9

// behindEnd lies in the spare memory of pairs of before, where nobody may write.
var behindEnd = impl.Pair{P: 77, Q: -77}

func take(a, b int) impl.Deed {
	return impl.Deed{Kind: impl.DkTake, A: a, B: b}
}

// deedTexts has all deeds that have a text, by this text.
func deedTexts() map[string]impl.Deed {
	deeds := map[string]impl.Deed{
		"turn": {Kind: impl.DkTurn}, "up": {Kind: impl.DkUp}, "down": {Kind: impl.DkDown}, "back": {Kind: impl.DkBack},
	}
	for a := -takenAtMost; a <= takenAtMost; a++ {
		for b := -takenAtMost; b <= takenAtMost; b++ {
			deeds[fmt.Sprintf("take %d %d", a, b)] = take(a, b)
		}
	}
	return deeds
}

// otherDeeds has deeds that have no text and cannot be done at any desk: of other kinds, with numbers beside a kind that names none, and with great numbers beside take.
func otherDeeds() []impl.Deed {
	var deeds []impl.Deed
	for _, n := range append(farNumbers(), -256, -10, -9, -4, -1, 1, 4, 5, 9, 10, 256) {
		for kind := impl.DkTurn; kind <= impl.DkBack; kind++ {
			deeds = append(deeds, impl.Deed{Kind: kind, A: n}, impl.Deed{Kind: kind, B: n}, impl.Deed{Kind: kind, A: n, B: n}, impl.Deed{Kind: kind, A: n, B: -n})
		}
	}
	for _, n := range append(farNumbers(), -256, -255, -11, -10, 10, 11, 255, 256) {
		deeds = append(deeds, take(n, 0), take(0, n), take(n, n), take(n, -1), take(3, n))
	}
	for _, kind := range outside(impl.DkTake, impl.DkBack) {
		deeds = append(deeds, impl.Deed{Kind: kind}, impl.Deed{Kind: kind, A: 3, B: 2}, impl.Deed{Kind: kind, A: 1}, impl.Deed{Kind: kind, B: 1})
	}
	return deeds
}

// before has so many pairs of before, no two of them beside each other the same.
func before(count, from int) []impl.Pair {
	pairs := allPairs()
	var past []impl.Pair
	for i := range count {
		past = append(past, pairs[(from+1+i*17)%len(pairs)])
	}
	return past
}

// manyDesks has each pair with none of before, one, one fewer than MaxPast, and MaxPast.
func manyDesks() []impl.Desk {
	var desks []impl.Desk
	for i, p := range allPairs() {
		for _, count := range []int{0, 1, impl.MaxPast - 1, impl.MaxPast} {
			desks = append(desks, impl.Desk{Now: p, Past: before(count, i)})
		}
	}
	return desks
}

// fewDesks has one desk for each number of pairs of before.
func fewDesks() []impl.Desk {
	var desks []impl.Desk
	for count := range impl.MaxPast + 1 {
		desks = append(desks, impl.Desk{Now: allPairs()[(7+count*23)%81], Past: before(count, 3*count)})
	}
	return desks
}

// badDesks has desks whose pair is none, or one of before, or with too many of before.
func badDesks() []impl.Desk {
	var desks []impl.Desk
	for _, bad := range badPairs() {
		desks = append(desks, impl.Desk{Now: bad})
	}
	for _, bad := range []impl.Pair{{P: 5}, {P: -5}, {Q: 5}, {Q: -5}, {P: 5, Q: 5}, {P: -256, Q: 1}, behindEnd} {
		for count := range impl.MaxPast + 1 {
			desks = append(desks, impl.Desk{Now: bad, Past: before(count, count)})
			for at := range count {
				past := before(count, 2*count)
				past[at] = bad
				desks = append(desks, impl.Desk{Now: fibonacci, Past: past})
			}
		}
	}
	for _, count := range []int{impl.MaxPast + 1, impl.MaxPast + 2, 2 * impl.MaxPast, 81, 255, 256, 257, 264, 1 << 16, 1<<16 + 4} {
		desks = append(desks, impl.Desk{Now: fibonacci, Past: before(count, 0)}, impl.Desk{Now: fibonacci, Past: make([]impl.Pair, count)})
	}
	return desks
}

// doneBy does a deed apart from the program.
func doneBy(d impl.Desk, a impl.Deed) (impl.Desk, bool) {
	next := map[impl.Deed]impl.Pair{
		take(a.A, a.B):      {P: a.A, Q: a.B},
		{Kind: impl.DkTurn}: {P: -d.Now.P, Q: d.Now.Q},
		{Kind: impl.DkUp}:   {P: d.Now.P + 1, Q: d.Now.Q + 1},
		{Kind: impl.DkDown}: {P: d.Now.P - 1, Q: d.Now.Q - 1},
	}
	all := append(slices.Clone(d.Past), d.Now)
	if a == (impl.Deed{Kind: impl.DkBack}) && len(all) > 1 {
		return impl.Desk{Now: all[len(all)-2], Past: all[:len(all)-2]}, true
	}
	pair, named := next[a]
	if !named || pair == d.Now || !slices.Contains(allPairs(), pair) {
		return d, false
	}
	if len(all) > impl.MaxPast {
		all = all[1:]
	}
	return impl.Desk{Now: pair, Past: all}, true
}

// runBy does deeds apart from the program.
func runBy(d impl.Desk, list []impl.Deed) (impl.Desk, int) {
	count := 0
	for _, deed := range list {
		after, done := doneBy(d, deed)
		if done {
			count++
		}
		d = after
	}
	return d, count
}

// mixedDeeds has so many deeds, of each kind, some of which cannot be done.
func mixedDeeds(count, from int) []impl.Deed {
	some := []impl.Deed{
		{Kind: impl.DkUp}, {Kind: impl.DkBack}, take(3, 2), {Kind: impl.DkTurn}, {Kind: impl.DkDown}, take(9, 0), take(0, 1),
		{Kind: impl.DkTurn}, {Kind: impl.DkUp}, {Kind: impl.DkUp}, take(-4, 4), {Kind: impl.DkDown}, take(2, -1),
	}
	var list []impl.Deed
	number := from
	for range count {
		number = (number*37 + 11) % 1009
		list = append(list, some[number%len(some)])
	}
	return list
}

func sameDesk(one, other impl.Desk) bool {
	return one.Now == other.Now && slices.Equal(one.Past, other.Past)
}

// deskAs reads a desk that is written as its pairs of before, a stroke and its pair.
func deskAs(t *testing.T, text string) impl.Desk {
	t.Helper()
	past, now, _ := strings.Cut(text, "|")
	var pairs []impl.Pair
	for _, word := range append(strings.Fields(past), now) {
		var p impl.Pair
		if _, err := fmt.Sscanf(word, "%d,%d", &p.P, &p.Q); err != nil {
			t.Fatal(word, err)
		}
		pairs = append(pairs, p)
	}
	last := len(pairs) - 1
	return impl.Desk{Now: pairs[last], Past: pairs[:last]}
}

// deedAs has the deed of a text that is one.
func deedAs(t *testing.T, text string) impl.Deed {
	t.Helper()
	deed, ok := deedTexts()[text]
	if !ok {
		t.Fatalf("%q is the text of no deed", text)
	}
	return deed
}

func checkDesk(t *testing.T, what string, got, want impl.Desk) {
	t.Helper()
	if !sameDesk(got, want) {
		t.Errorf("%s is the desk %v, not %v", what, got, want)
	}
}

// checkNoDesk holds that a desk that is not told is the zero value.
func checkNoDesk(t *testing.T, what string, got impl.Desk) {
	t.Helper()
	if got.Now != (impl.Pair{}) || len(got.Past) != 0 {
		t.Errorf("%s is the desk %v", what, got)
	}
}

func checkDeskOk(t *testing.T, d impl.Desk, want bool) {
	t.Helper()
	if got := impl.DeskOk(d); got != want {
		t.Errorf("DeskOk of %v, with %d pairs of before, is %v", d.Now, len(d.Past), got)
	}
}

func checkDo(t *testing.T, d impl.Desk, a impl.Deed, want impl.Desk, wantDone bool) {
	t.Helper()
	got, done := impl.DeskDo(d, a)
	if done != wantDone {
		t.Errorf("DeskDo(%v, %v) is told as %v", d, a, done)
	}
	checkDesk(t, fmt.Sprintf("DeskDo(%v, %v)", d, a), got, want)
}

// checkNotDone holds that a deed cannot be done, and changes nothing.
func checkNotDone(t *testing.T, d impl.Desk, a impl.Deed) {
	t.Helper()
	checkDo(t, d, a, d, false)
}

func checkRun(t *testing.T, d impl.Desk, list []impl.Deed, want impl.Desk, wantCount int) {
	t.Helper()
	got, count := impl.DeskRun(d, list)
	if count != wantCount {
		t.Errorf("DeskRun(%v, %v) does %d deeds, not %d", d, list, count, wantCount)
	}
	checkDesk(t, fmt.Sprintf("DeskRun(%v, %v)", d, list), got, want)
}

// checkOwnPast holds that the desk that is made of a desk shares no memory with it, behind the end of both too, and that none of it was written to.
func checkOwnPast(t *testing.T, what string, d impl.Desk, of func(impl.Desk) impl.Desk) {
	t.Helper()
	memory := append(slices.Clone(d.Past), behindEnd, behindEnd, behindEnd)
	lent := impl.Desk{Now: d.Now, Past: memory[:len(d.Past)]}
	whole := slices.Clone(memory)
	got := of(lent)
	want := slices.Clone(got.Past)
	if !slices.Equal(memory, whole) {
		t.Errorf("%s writes to the desk %v", what, d)
	}
	for i := range memory {
		memory[i] = impl.Pair{P: 99, Q: 99}
	}
	if !slices.Equal(got.Past, want) {
		t.Errorf("%s is changed with the desk %v", what, d)
	}
	lent.Past = append(memory[:0], whole...)[:len(d.Past)]
	again := of(lent)
	for i := range again.Past[:cap(again.Past)] {
		again.Past[:cap(again.Past)][i] = impl.Pair{P: 88, Q: 88}
	}
	if !slices.Equal(memory, whole) || !slices.Equal(got.Past, want) {
		t.Errorf("%s shares memory with the desk %v", what, d)
	}
}

func TestConstantsOfDesks(t *testing.T) {
	got := [7]int{impl.DkTake, impl.DkTurn, impl.DkUp, impl.DkDown, impl.DkBack, impl.MaxPast, impl.MaxLines}
	if got != [7]int{0, 1, 2, 3, 4, 8, 40} {
		t.Errorf("DkTake, DkTurn, DkUp, DkDown, DkBack, MaxPast and MaxLines are %v", got)
	}
}

func TestPromise52EachDeedIsDone(t *testing.T) {
	for _, d := range manyDesks() {
		for _, deed := range deedTexts() {
			want, done := doneBy(d, deed)
			checkDo(t, d, deed, want, done)
		}
	}
}

func TestPromise52WhatWasDoneCanBeUndone(t *testing.T) {
	undone := 0
	for _, d := range append(manyDesks(), fewDesks()...) {
		for _, deed := range deedTexts() {
			after, done := impl.DeskDo(d, deed)
			if !done || deed.Kind == impl.DkBack {
				continue
			}
			want := d
			if len(d.Past) == impl.MaxPast {
				want.Past = d.Past[1:]
			}
			undone++
			checkDo(t, after, impl.Deed{Kind: impl.DkBack}, want, true)
		}
	}
	if undone < 81*80*4 {
		t.Errorf("only %d deeds were undone", undone)
	}
}

func TestPromise52WhateverIsDoneTheDeskIsOne(t *testing.T) {
	for _, d := range append(manyDesks(), fewDesks()...) {
		for _, deed := range deedTexts() {
			after, _ := impl.DeskDo(d, deed)
			checkDeskOk(t, after, true)
		}
	}
}

func TestPromise52TurnedPairsHaveTheSameWeight(t *testing.T) {
	for _, d := range manyDesks() {
		after, done := impl.DeskDo(d, impl.Deed{Kind: impl.DkTurn})
		if done != (d.Now.P != 0) || after.Now != impl.TurnedOf(d.Now) {
			t.Errorf("%v is turned to %v, %v", d.Now, after.Now, done)
		}
		if weightOf(t, after.Now) != weightOf(t, d.Now) {
			t.Errorf("the weight of %v is not that of %v", after.Now, d.Now)
		}
	}
}

func TestPromise52WhatCannotBeDoneChangesNothing(t *testing.T) {
	for _, d := range append(fewDesks(), manyDesks()[:8]...) {
		for _, deed := range otherDeeds() {
			checkNotDone(t, d, deed)
		}
	}
	for _, d := range manyDesks() {
		checkNotDone(t, d, take(d.Now.P, d.Now.Q))
		for far := 5; far <= takenAtMost; far++ {
			for near := -4; near <= 4; near++ {
				for _, deed := range []impl.Deed{take(far, near), take(-far, near), take(near, far), take(near, -far), take(far, far), take(far, -far)} {
					checkNotDone(t, d, deed)
				}
			}
		}
	}
}

func TestPromise52NumbersThatBecomeTooGreat(t *testing.T) {
	for _, past := range [][]impl.Pair{nil, before(1, 5), before(impl.MaxPast, 5)} {
		for n := -4; n <= 4; n++ {
			for _, p := range []impl.Pair{{P: 4, Q: n}, {P: n, Q: 4}} {
				checkNotDone(t, impl.Desk{Now: p, Past: past}, impl.Deed{Kind: impl.DkUp})
			}
			for _, p := range []impl.Pair{{P: -4, Q: n}, {P: n, Q: -4}} {
				checkNotDone(t, impl.Desk{Now: p, Past: past}, impl.Deed{Kind: impl.DkDown})
			}
			checkNotDone(t, impl.Desk{Now: impl.Pair{Q: n}, Past: past}, impl.Deed{Kind: impl.DkTurn})
		}
	}
	for _, p := range allPairs() {
		checkNotDone(t, impl.Desk{Now: p}, impl.Deed{Kind: impl.DkBack})
	}
}

// Each line has a desk, a deed and the desk behind it, which is none for what cannot be done.
func TestPromise52KnownDeeds(t *testing.T) {
	known := []struct{ desk, deed, after string }{
		{"|1,-1", "take 3 2", "1,-1|3,2"}, {"|1,-1", "take -4 4", "1,-1|-4,4"}, {"|1,-1", "take 4 -4", "1,-1|4,-4"}, {"|1,-1", "take 0 0", "1,-1|0,0"},
		{"|1,-1", "take 1 -1", ""}, {"|1,-1", "take 5 -1", ""}, {"|1,-1", "take 1 5", ""}, {"|1,-1", "take -5 -1", ""}, {"|1,-1", "take 1 -5", ""},
		{"|1,-1", "take 9 9", ""}, {"|0,0", "take 0 0", ""}, {"|1,-1", "take -1 1", "1,-1|-1,1"}, {"|1,-1", "take -1 -1", "1,-1|-1,-1"}, {"|1,-1", "take 1 1", "1,-1|1,1"},
		{"|1,-1", "turn", "1,-1|-1,-1"}, {"|-4,3", "turn", "-4,3|4,3"}, {"|0,3", "turn", ""}, {"2,2|0,-4", "turn", ""},
		{"|1,-1", "up", "1,-1|2,0"}, {"|3,3", "up", "3,3|4,4"}, {"|4,0", "up", ""}, {"|0,4", "up", ""}, {"|4,4", "up", ""}, {"|-4,-4", "up", "-4,-4|-3,-3"}, {"|-1,-1", "up", "-1,-1|0,0"},
		{"|1,-1", "down", "1,-1|0,-2"}, {"|-3,-3", "down", "-3,-3|-4,-4"}, {"|-4,0", "down", ""}, {"|0,-4", "down", ""}, {"|-4,-4", "down", ""}, {"|4,4", "down", "4,4|3,3"},
		{"|1,-1", "back", ""}, {"3,2|1,-1", "back", "|3,2"}, {"0,0 3,2|1,-1", "back", "0,0|3,2"}, {"1,-1|1,-1", "back", "|1,-1"}, {"0,0|0,0", "back", "|0,0"},
		{"2,2 1,-1|3,2", "take 1 -1", "2,2 1,-1 3,2|1,-1"}, {"1,-1|2,0", "down", "1,-1 2,0|1,-1"}, {"1,-1|-1,-1", "turn", "1,-1 -1,-1|1,-1"},
		{"1,1 1,2 1,3 1,4 2,1 2,2 2,3|2,4", "turn", "1,1 1,2 1,3 1,4 2,1 2,2 2,3 2,4|-2,4"},
		{"1,1 1,2 1,3 1,4 2,1 2,2 2,3 2,4|3,1", "up", "1,2 1,3 1,4 2,1 2,2 2,3 2,4 3,1|4,2"},
		{"1,1 1,2 1,3 1,4 2,1 2,2 2,3 2,4|3,1", "down", "1,2 1,3 1,4 2,1 2,2 2,3 2,4 3,1|2,0"},
		{"1,1 1,2 1,3 1,4 2,1 2,2 2,3 2,4|3,1", "turn", "1,2 1,3 1,4 2,1 2,2 2,3 2,4 3,1|-3,1"},
		{"1,1 1,2 1,3 1,4 2,1 2,2 2,3 2,4|3,1", "take 2 4", "1,2 1,3 1,4 2,1 2,2 2,3 2,4 3,1|2,4"},
		{"1,1 1,2 1,3 1,4 2,1 2,2 2,3 2,4|3,1", "take 3 1", ""}, {"1,1 1,2 1,3 1,4 2,1 2,2 2,3 2,4|4,1", "up", ""},
		{"1,1 1,2 1,3 1,4 2,1 2,2 2,3 2,4|3,1", "back", "1,1 1,2 1,3 1,4 2,1 2,2 2,3|2,4"},
	}
	for _, k := range known {
		d := deskAs(t, k.desk)
		if k.after == "" {
			checkNotDone(t, d, deedAs(t, k.deed))
		} else {
			checkDo(t, d, deedAs(t, k.deed), deskAs(t, k.after), true)
		}
	}
}

func TestPromise52DesksAreNewMemory(t *testing.T) {
	deeds := []impl.Deed{{Kind: impl.DkTurn}, {Kind: impl.DkUp}, {Kind: impl.DkDown}, {Kind: impl.DkBack}, take(3, 2), take(9, 0), {Kind: 5}, {Kind: impl.DkBack, A: 1}}
	for _, d := range append(fewDesks(), impl.Desk{Past: before(3, 1)}, impl.Desk{Now: impl.Pair{P: 4, Q: 4}, Past: before(5, 1)}) {
		for _, deed := range append(deeds, take(d.Now.P, d.Now.Q)) {
			checkOwnPast(t, fmt.Sprintf("DeskDo of %v", deed), d, func(lent impl.Desk) impl.Desk {
				after, _ := impl.DeskDo(lent, deed)
				return after
			})
		}
	}
}

func TestPromise52NothingIsDoneAtOtherDesks(t *testing.T) {
	deeds := []impl.Deed{{Kind: impl.DkTurn}, {Kind: impl.DkUp}, {Kind: impl.DkDown}, {Kind: impl.DkBack}, {}, take(3, 2), take(1, -1), take(5, 0), {Kind: 5}, {Kind: -1}}
	for _, d := range badDesks() {
		for _, deed := range deeds {
			after, done := impl.DeskDo(d, deed)
			if done {
				t.Errorf("%v is done at no desk", deed)
			}
			checkNoDesk(t, "no desk behind a deed", after)
		}
	}
}

func TestPromise53WhateverIsDoneItIsADesk(t *testing.T) {
	some := []impl.Deed{{Kind: impl.DkTurn}, {Kind: impl.DkUp}, {Kind: impl.DkDown}, {Kind: impl.DkBack}, take(3, 2), take(1, -1), take(0, 4), take(-9, 0), {Kind: impl.DkUp, B: 1}, {Kind: 7}}
	for _, d := range []impl.Desk{{Now: fibonacci}, {Now: impl.Pair{P: 4, Q: -4}, Past: before(7, 2)}, {Now: impl.Pair{Q: 3}, Past: before(8, 4)}} {
		for number := range len(some) * len(some) * len(some) * len(some) {
			var list []impl.Deed
			for rest := number; rest > 0; rest /= len(some) {
				list = append(list, some[rest%len(some)])
			}
			want, count := runBy(d, list)
			checkRun(t, d, list, want, count)
			checkDeskOk(t, want, true)
		}
	}
}

func TestPromise53InTwoPartsItIsTheSame(t *testing.T) {
	for from, d := range append(fewDesks(), manyDesks()...) {
		list := mixedDeeds(impl.MaxLines-from%3, from)
		want, count := impl.DeskRun(d, list)
		checkDeskOk(t, want, true)
		for at := range len(list) + 1 {
			middle, first := impl.DeskRun(d, list[:at])
			after, second := impl.DeskRun(middle, list[at:])
			checkDesk(t, fmt.Sprint("the desk of two parts, cut at ", at), after, want)
			if first+second != count {
				t.Errorf("%d and %d deeds are done, not %d together", first, second, count)
			}
		}
		byHand, counted := runBy(d, list)
		checkRun(t, d, list, byHand, counted)
	}
}

func TestPromise53NoDeedsLeaveTheDesk(t *testing.T) {
	for _, d := range append(fewDesks(), manyDesks()...) {
		checkRun(t, d, nil, d, 0)
		checkRun(t, d, []impl.Deed{}, d, 0)
		checkRun(t, d, otherDeeds()[:impl.MaxLines], d, 0)
	}
}

func TestPromise53ListsUpToTheirBound(t *testing.T) {
	for from, d := range fewDesks() {
		for _, count := range []int{1, 2, impl.MaxLines - 1, impl.MaxLines} {
			list := mixedDeeds(count, from)
			want, done := runBy(d, list)
			checkRun(t, d, list, want, done)
		}
		for _, count := range []int{impl.MaxLines + 1, impl.MaxLines + 2, 2 * impl.MaxLines, 256, 257, 1 << 16, 1<<16 + 1} {
			after, done := impl.DeskRun(d, mixedDeeds(count, from))
			checkNoDesk(t, fmt.Sprint("the desk behind ", count, " deeds"), after)
			if done != 0 {
				t.Errorf("%d of %d deeds are done", done, count)
			}
			after, done = impl.DeskRun(d, make([]impl.Deed, count))
			checkNoDesk(t, fmt.Sprint("the desk behind ", count, " deeds"), after)
			if done != 0 {
				t.Errorf("%d of %d deeds are done", done, count)
			}
		}
	}
}

func TestPromise53KnownRuns(t *testing.T) {
	known := []struct {
		desk, deeds, after string
		count              int
	}{
		{"|1,-1", "take 3 2; turn; up; take 9 0; back; down", "1,-1 3,2 -3,2|-4,1", 5},
		{"|1,-1", "up; up; up; up; up; up", "1,-1 2,0 3,1|4,2", 3},
		{"|1,-1", "back; turn; back; back", "|1,-1", 2},
		{"|0,0", "turn; take 0 0; back", "|0,0", 0},
		{"|-4,-4", "up; up; up; up; up; up; up; up; up", "-4,-4 -3,-3 -2,-2 -1,-1 0,0 1,1 2,2 3,3|4,4", 8},
		{"|-4,-3", "up; up; up; up; up; up; up; turn; take 0 0", "-3,-2 -2,-1 -1,0 0,1 1,2 2,3 3,4 -3,4|0,0", 9},
		{"1,1 1,2 1,3 1,4 2,1 2,2 2,3 2,4|3,1", "turn; turn; back; back; back", "1,3 1,4 2,1 2,2 2,3|2,4", 5},
		{"2,2|1,-1", "back; back; down; back; take 2 2; take 2 2; take 2 3", "2,2|2,3", 4},
	}
	for _, k := range known {
		var list []impl.Deed
		for text := range strings.SplitSeq(k.deeds, "; ") {
			list = append(list, deedAs(t, text))
		}
		checkRun(t, deskAs(t, k.desk), list, deskAs(t, k.after), k.count)
	}
}

func TestPromise53DesksAreNewMemory(t *testing.T) {
	lists := [][]impl.Deed{nil, {{Kind: impl.DkTurn}}, {{Kind: impl.DkBack}}, {take(9, 9)}, {{Kind: impl.DkUp}, {Kind: impl.DkBack}}, {{Kind: impl.DkBack}, {Kind: impl.DkBack}, {Kind: impl.DkBack}}, mixedDeeds(impl.MaxLines, 1)}
	for _, d := range fewDesks() {
		for _, list := range lists {
			given := slices.Clone(list)
			checkOwnPast(t, fmt.Sprintf("DeskRun of %v", list), d, func(lent impl.Desk) impl.Desk {
				after, _ := impl.DeskRun(lent, list)
				return after
			})
			if !slices.Equal(list, given) {
				t.Errorf("DeskRun writes to the deeds %v", given)
			}
		}
	}
}

func TestPromise53NothingIsDoneAtOtherDesks(t *testing.T) {
	for _, d := range badDesks() {
		for _, count := range []int{0, 1, 5, impl.MaxLines, impl.MaxLines + 1} {
			after, done := impl.DeskRun(d, mixedDeeds(count, 3))
			checkNoDesk(t, "no desk behind deeds", after)
			if done != 0 {
				t.Errorf("%d deeds are done at no desk", done)
			}
		}
	}
}

func TestPromise56DesksCanForget(t *testing.T) {
	for _, d := range append(manyDesks(), fewDesks()...) {
		checkDeskOk(t, d, true)
		for keep := range len(d.Past) + 1 {
			checkDeskOk(t, impl.Desk{Now: d.Now, Past: d.Past[keep:]}, true)
			checkDeskOk(t, impl.Desk{Now: d.Now, Past: d.Past[:keep]}, true)
		}
		checkDeskOk(t, impl.Desk{Now: d.Now}, true)
		checkDeskOk(t, impl.Desk{Now: d.Now, Past: []impl.Pair{}}, true)
		checkDeskOk(t, impl.Desk{Now: d.Now, Past: make([]impl.Pair, impl.MaxPast, 300)}, true)
	}
	checkDeskOk(t, impl.Desk{}, true)
	memory := append(before(impl.MaxPast, 0), behindEnd, behindEnd)
	checkDeskOk(t, impl.Desk{Now: fibonacci, Past: memory[:impl.MaxPast]}, true)
}

func TestPromise56EachPairMayBeOfBefore(t *testing.T) {
	for _, p := range allPairs() {
		for at := range impl.MaxPast {
			past := before(impl.MaxPast, at)
			past[at] = p
			checkDeskOk(t, impl.Desk{Now: fibonacci, Past: past}, true)
		}
		checkDeskOk(t, impl.Desk{Now: p, Past: []impl.Pair{p, p}}, true)
	}
}

func TestPromise56OthersAreNoDesks(t *testing.T) {
	for _, d := range badDesks() {
		checkDeskOk(t, d, false)
	}
	for _, bad := range badPairs() {
		for at := range impl.MaxPast {
			past := before(impl.MaxPast, at)
			past[at] = bad
			checkDeskOk(t, impl.Desk{Now: fibonacci, Past: past}, false)
		}
	}
}

func TestPromise57NewDesksHaveOnePair(t *testing.T) {
	for _, p := range allPairs() {
		d, ok := impl.DeskNew(p)
		if !ok || d.Now != p || len(d.Past) != 0 {
			t.Errorf("DeskNew(%v) is %v, %v", p, d, ok)
		}
		checkDeskOk(t, d, true)
	}
}

func TestPromise57NothingElseHasADesk(t *testing.T) {
	for _, p := range badPairs() {
		d, ok := impl.DeskNew(p)
		if ok {
			t.Errorf("DeskNew(%v) is told", p)
		}
		checkNoDesk(t, fmt.Sprintf("DeskNew(%v)", p), d)
	}
}
