package tests

import (
	"fmt"
	"regexp"
	"slices"
	"strconv"
	"strings"
	"testing"

	"loop.example/lucaspairs/impl"
)

// askedAtMost is the greatest number of a question: one of nine digits.
const askedAtMost = 999999999

// questionLine fits the lines that are questions, and no others.
var questionLine = regexp.MustCompile(`^(?:pair|weight|(?:first|second|rank|period|passes|written) (?:0|[1-9][0-9]{0,8})|(?:far|circle)(?: (?:0|[1-9][0-9]{0,8})){2})$`)

// answerBy answers a line that is no deed by the chapters before.
func answerBy(d impl.Desk, line string) string {
	if !questionLine.MatchString(line) {
		return "what"
	}
	var n [2]int
	words := strings.Fields(line)
	for i, word := range words[1:] {
		n[i], _ = strconv.Atoi(word)
	}
	told := func(number int, ok bool) string {
		if !ok {
			return "none"
		}
		return fmt.Sprint(number)
	}
	switch words[0] {
	case "pair":
		return fmt.Sprintf("%d,%d", d.Now.P, d.Now.Q)
	case "weight":
		return told(impl.WeightOf(d.Now))
	case "first":
		return told(impl.FirstAt(d.Now, n[0]))
	case "second":
		return told(impl.SecondAt(d.Now, n[0]))
	case "rank":
		return told(impl.RankOf(d.Now, n[0]))
	case "period":
		return told(impl.PeriodOf(d.Now, n[0]))
	case "far":
		return told(impl.FarFirst(d.Now, n[0], n[1]), 1 <= n[1] && n[1] <= impl.MaxBy)
	case "circle":
		return told(impl.CircleOf(n[0], n[1]))
	case "written":
		if n[0] > impl.MaxWritten {
			return "none"
		}
		return impl.WrittenOf(n[0])
	}
	if impl.PassesFirst(d.Now, n[0]) && impl.PassesSecond(d.Now, n[0]) {
		return "yes"
	}
	return "no"
}

// lineBy says a line to a desk apart from the program.
func lineBy(all map[string]impl.Deed, d impl.Desk, line string) (impl.Desk, string) {
	deed, ok := all[line]
	if !ok {
		return d, answerBy(d, line)
	}
	after, done := doneBy(d, deed)
	if !done {
		return after, "not"
	}
	return after, "ok"
}

// sayBy says lines to a desk apart from the program.
func sayBy(d impl.Desk, lines []string) (impl.Desk, []string) {
	all := deedTexts()
	var answers []string
	for _, line := range lines {
		after, answer := lineBy(all, d, line)
		answers = append(answers, answer)
		d = after
	}
	return d, answers
}

// askedLines has questions with numbers of one and of nine digits, told and not told.
func askedLines() []string {
	lines := []string{"pair", "weight"}
	for _, n := range []int{0, 1, 2, 3, 4, 5, 7, 8, 9, 10, 11, 12, 19, 20, 21, 22, 35, 99, 100, 101, 323, 377, 399, 400, 401, 705, 999, 1000, 5777, 9973, 9999, 10000, 10001, 65535, 65536, 65543, 99999999, 100000000, 536870919, 999999937, askedAtMost} {
		for _, word := range []string{"first", "second", "rank", "period", "passes", "written"} {
			lines = append(lines, word+" "+strconv.Itoa(n))
		}
		for _, other := range []int{0, 1, 2, 7, 100, 101, 1000, 9999, 10000, 10001, 65537, 123456789, askedAtMost} {
			for _, word := range []string{"far", "circle"} {
				lines = append(lines, fmt.Sprintf("%s %d %d", word, n, other), fmt.Sprintf("%s %d %d", word, other, n))
			}
		}
	}
	return lines
}

// strangeLines has lines that are neither deeds nor questions.
func strangeLines() []string {
	lines := []string{
		"pairs", "pai", "Pair", "PAIR", "pair ", " pair", "pair  ", "pair 0", "pair 1", "pair 1 2", "pair\n", "pair\r", "pair\t", "\npair", "pair\x00", "pair,weight", "pair pair",
		"weights", "weigh", "Weight", "WEIGHT", "weight ", " weight", "weight 0", "weight 5", "weight 1 -1", "weight\n", "\tweight",
		"first", "first ", " first 12", "first  12", "first 12 ", "first 1 2", "first 12 0", "First 12", "FIRST 12", "firs 12", "firsts 12", "first12", "12 first", "12",
		"first +1", "first -1", "first -0", "first +0", "first 01", "first 00", "first 012", "first 000000001", "first 0000000000", "first 1234567890", "first 1000000000", "first 9999999999", "first 0999999999", "first 4294967297", "first 4294967308", "first 18446744073709551617", "first 18446744073709551628",
		"first 1.0", "first 1.", "first .5", "first 1e0", "first 0x1", "first 0b1", "first 1_0", "first 1,2", "first x", "first x1", "first 1x", "first -", "first +", "first \"1\"", "first (1)",
		"first\t12", "first 12\t", "first 12\r", "first 12\n", "first\n12", "first 1\n2", "\nfirst 12", "first 12\r\n", "first 12\x00", "first \x0012", "first\x0012", "first 12\v", "\ffirst 12", "first 12\nfirst 12",
		"second", "second ", "second -1", "second 06", "second 6 6", "Second 6", "second 1234567890", "sec 6", "seconds 6", "second\t6",
		"rank", "rank ", "rank -7", "rank 07", "rank 7 7", "Rank 7", "rank 1000000007", "ranks 7", "rank +7", "rank  7",
		"period", "period ", "period -10", "period 010", "period 10 10", "Period 10", "period 1000000010", "periods 10", "period +10", "period 10 ",
		"passes", "passes ", "passes -7", "passes 07", "passes 7 7", "Passes 7", "passes 1000000007", "pass 7", "passes +7", "passes  7",
		"written", "written ", "written -1", "written 011", "written 11 11", "Written 11", "written 1000000000", "write 11", "written +11", "written 10100 ", "written 00",
		"far", "far ", "far 100", "far 100 ", "far  100 1000", "far 100  1000", "far 100 1000 ", " far 100 1000", "far 100 1000 1", "far 1 2 3 4", "far 1 2 x", "far x 2", "far 1 x", "far -1 10", "far 1 -10", "far 01 10", "far 1 010", "far +1 10", "far 1 +10", "far -0 10", "far 1 -0", "far 1000000000 10", "far 1 1000000000", "Far 100 1000", "far 100,1000", "far 100\t1000", "far 100 1000\n", "far 100\n1000", "farther 1 2",
		"circle", "circle ", "circle 2", "circle 2 ", "circle  2 2", "circle 2  2", "circle 2 2 ", " circle 2 2", "circle 2 2 2", "circle 2 2 2 2", "circle x 2", "circle 2 x", "circle -2 2", "circle 2 -2", "circle 02 2", "circle 2 02", "circle +2 2", "circle 1234567890 2", "circle 2 1234567890", "Circle 2 2", "circle 2,2", "circle 2\t2", "circle\n2 2",
		"shared 1 2", "FirstAt 12", "loops 10", "step 10", "ways 3", "places 11", "what", "what?", "help", "quit", "none 1", "passing 100", "apart", "turned", "desk", "journal", "now", "past",
		"first \u0661", "first \uff11", "\ufb01rst 12", "first\u00a012", "first 12\u00a0", "first 1\u0301", "first \u22121", "first \u2460", "\ufefffirst 12", "first 12\xff", "\xfffirst 12", "first \xff", "p\u0430ir", "weight\u2028", "\U0001f600",
	}
	for _, length := range []int{27, 255, 256, 1 << 16, 1 << 20} {
		lines = append(lines,
			"first "+strings.Repeat("0", length), "first "+strings.Repeat("1", length), "first 12"+strings.Repeat(" ", length), strings.Repeat(" ", length)+"first 12", "first"+strings.Repeat(" ", length)+"12", "first "+strings.Repeat("0", length)+"12",
			"far 1 "+strings.Repeat("9", length), "far "+strings.Repeat("1 ", length)+"1", "circle 2 2"+strings.Repeat(" 2", length), "pair"+strings.Repeat("\x00", length), strings.Repeat("pair", length), strings.Repeat("first 12\n", length/9+1), "written "+strings.Repeat("10", length), "weight"+strings.Repeat("\n", length))
	}
	return append(lines, noDeedTexts()...)
}

// mixedLines has so many lines: deeds, questions and others.
func mixedLines(count, from int) []string {
	some := []string{
		"turn", "first 12", "up", "pair", "take 3 2", "what is this", "down", "weight", "back", "rank 7", "take 5 0", "", "period 10", "up", "far 100 1000", "take 0 -4", "passes 323",
		"passes 7", "second 6", "up", "written 11", "circle 2 2", "back", "first 21", "turn ", "down", "circle 101 1", "take -4 4", "written 10001",
	}
	var lines []string
	number := from
	for range count {
		number = (number*53 + 29) % 2003
		lines = append(lines, some[number%len(some)])
	}
	return lines
}

// briefly has the beginning of a long line.
func briefly(line string) string {
	return fmt.Sprintf("%.60q, of %d bytes,", line, len(line))
}

func checkLine(t *testing.T, d impl.Desk, line string, want impl.Desk, wantAnswer string) {
	t.Helper()
	got, answer := impl.DeskLine(d, line)
	if answer != wantAnswer {
		t.Errorf("%s is answered at %v by %q, not by %q", briefly(line), d.Now, answer, wantAnswer)
	}
	checkDesk(t, "behind "+briefly(line)+" there", got, want)
}

// checkAnswer holds that a question has an answer, and leaves the desk as it is.
func checkAnswer(t *testing.T, d impl.Desk, line, want string) {
	t.Helper()
	checkLine(t, d, line, d, want)
}

func checkSay(t *testing.T, d impl.Desk, lines []string, want impl.Desk, wantAnswers []string) {
	t.Helper()
	given := slices.Clone(lines)
	got, answers := impl.DeskSay(d, lines)
	if !slices.Equal(answers, wantAnswers) {
		t.Errorf("%q are answered at %v by %q, not by %q", lines, d.Now, answers, wantAnswers)
	}
	checkDesk(t, fmt.Sprintf("behind %q there", lines), got, want)
	if !slices.Equal(lines, given) {
		t.Errorf("DeskSay writes to the lines %q", given)
	}
}

func checkNothingSaid(t *testing.T, d impl.Desk, lines []string) {
	t.Helper()
	after, answers := impl.DeskSay(d, lines)
	checkNoDesk(t, fmt.Sprint("behind ", len(lines), " lines there"), after)
	if len(answers) != 0 {
		t.Errorf("%d lines are answered by %q", len(lines), answers)
	}
}

// The lines and answers are those of the document's section 'Examples'.
func TestPromise55Examples(t *testing.T) {
	const examples = `
weight          5
first 12        144
second 6        18
far 100 1000    75
rank 7          8
period 10       60
passes 7        yes
passes 323      no
take 3 2        ok
first 10        1023
turn            ok
pair            -3,2
written 11      10100
circle 2 2      8`
	var lines, answers []string
	for example := range strings.SplitSeq(strings.TrimSpace(examples), "\n") {
		lines = append(lines, strings.TrimSpace(example[:16]))
		answers = append(answers, example[16:])
	}
	d, _ := impl.DeskNew(fibonacci)
	checkSay(t, d, lines, deskAs(t, "1,-1 3,2|-3,2"), answers)
}

func TestPromise55TwoPartsOfTheLines(t *testing.T) {
	for from, d := range append(fewDesks(), manyDesks()[100:160]...) {
		lines := mixedLines(impl.MaxLines-from%2, from)
		want, answers := impl.DeskSay(d, lines)
		for at := range len(lines) + 1 {
			middle, first := impl.DeskSay(d, lines[:at])
			after, second := impl.DeskSay(middle, lines[at:])
			checkDesk(t, fmt.Sprint("the desk of two parts, cut at ", at), after, want)
			if !slices.Equal(append(slices.Clone(first), second...), answers) {
				t.Errorf("two parts of %q, cut at %d, are answered by %q and %q", lines, at, first, second)
			}
		}
		if len(answers) != len(lines) || slices.Contains(answers, "") {
			t.Errorf("%q are answered by %q", lines, answers)
		}
		byHand, answersBy := sayBy(d, lines)
		checkSay(t, d, lines, byHand, answersBy)
	}
}

func TestPromise55NoAnswerIsEmpty(t *testing.T) {
	for from, d := range fewDesks() {
		for _, lines := range [][]string{askedLines(), strangeLines(), sortedTexts()} {
			for part := range slices.Chunk(lines, impl.MaxLines-from) {
				_, answers := impl.DeskSay(d, part)
				if len(answers) != len(part) || slices.Contains(answers, "") {
					t.Errorf("%d lines are answered by %q", len(part), answers)
				}
			}
		}
	}
}

func TestPromise55WhateverIsSaidElevenIsWritten(t *testing.T) {
	for from, d := range append(fewDesks(), manyDesks()...) {
		for _, count := range []int{0, 1, 2, from % (impl.MaxLines - 1), impl.MaxLines - 2} {
			lines := append(mixedLines(count, from), "written 11", "circle 2 2")
			_, answers := impl.DeskSay(d, lines)
			if len(answers) != count+2 || answers[count] != "10100" || answers[count+1] != "8" {
				t.Errorf("behind %q the answers are %q", lines[:count], answers)
			}
		}
	}
}

func TestPromise55NoLinesLeaveTheDesk(t *testing.T) {
	for _, d := range append(fewDesks(), manyDesks()...) {
		checkSay(t, d, nil, d, nil)
		checkSay(t, d, []string{}, d, nil)
		checkSay(t, d, []string{""}, d, []string{"what"})
		checkSay(t, d, make([]string, impl.MaxLines), d, slices.Repeat([]string{"what"}, impl.MaxLines))
	}
}

func TestPromise55LinesUpToTheirBound(t *testing.T) {
	for from, d := range fewDesks() {
		for _, count := range []int{1, 2, impl.MaxLines - 1, impl.MaxLines} {
			lines := mixedLines(count, from)
			want, answers := sayBy(d, lines)
			checkSay(t, d, lines, want, answers)
		}
		for _, count := range []int{impl.MaxLines + 1, impl.MaxLines + 2, 2 * impl.MaxLines, 256, 257, 1 << 16, 1<<16 + 1} {
			checkNothingSaid(t, d, mixedLines(count, from))
			checkNothingSaid(t, d, make([]string, count))
		}
	}
}

func TestPromise55KnownAnswers(t *testing.T) {
	known := []struct{ desk, lines, answers, after string }{
		{"|1,-1", "pair; take 3 2; pair; turn; pair; up; pair; down; pair", "1,-1 ok 3,2 ok -3,2 ok -2,3 ok -3,2", "1,-1 3,2 -3,2 -2,3|-3,2"},
		{"|1,-1", "back; pair; take 1 -1; take 5 0; pair; take 4 4; up; pair; back; back; pair", "not 1,-1 not not 1,-1 ok not 4,4 ok not 1,-1", "|1,-1"},
		{"|0,2", "turn; weight; up; up; up; weight; first 3; back; weight", "not -8 ok ok not -12 0 ok -11", "0,2|1,3"},
		{"|2,1", "weight; rank 400; period 399; passes 7; first 20; down; first 20; second 20; rank 1", "0 400 399 no 20 ok 1 1 none", "2,1|1,0"},
		{"3,2|1,-1", "rank 6; back; rank 6; back; rank 6", "12 ok none not none", "|3,2"},
		{"|1,-1", "first 21; second 21; rank 401; period 401; far 5 0; far 5 10001; circle 101 1; written 10001; passes 10001; first 021", "none none none none none none none none no what", "|1,-1"},
	}
	for _, k := range known {
		checkSay(t, deskAs(t, k.desk), strings.Split(k.lines, "; "), deskAs(t, k.after), strings.Fields(k.answers))
	}
}

func TestPromise55DesksAndAnswersAreNewMemory(t *testing.T) {
	for _, d := range fewDesks() {
		for _, lines := range [][]string{nil, {""}, {"pair"}, {"back"}, {"take 9 9"}, {"up", "back"}, mixedLines(impl.MaxLines, 5)} {
			checkOwnPast(t, fmt.Sprintf("DeskSay of %q", lines), d, func(lent impl.Desk) impl.Desk {
				after, _ := impl.DeskSay(lent, lines)
				return after
			})
			if len(lines) > 0 {
				checkNewMemory(t, "DeskSay", func() []string {
					_, answers := impl.DeskSay(d, lines)
					return answers
				})
			}
		}
	}
}

func TestPromise55NothingIsSaidAtOtherDesks(t *testing.T) {
	for _, d := range badDesks() {
		for _, count := range []int{0, 1, 5, impl.MaxLines, impl.MaxLines + 1} {
			checkNothingSaid(t, d, mixedLines(count, 3))
		}
	}
}

func TestPromise61QuestionsChangeNothing(t *testing.T) {
	for _, d := range fewDesks() {
		for _, lines := range [][]string{askedLines(), strangeLines(), sortedTexts()} {
			for _, line := range lines {
				after, answer := impl.DeskLine(d, line)
				checkDeskOk(t, after, true)
				if answer != "ok" {
					checkDesk(t, "behind "+briefly(line)+" there", after, d)
				}
			}
		}
		checkAnswer(t, d, "", "what")
	}
}

func TestPromise61EachQuestionIsAnswered(t *testing.T) {
	for i, d := range manyDesks() {
		for j, line := range askedLines() {
			if i%4 == 0 || (i+j)%23 == 0 {
				checkAnswer(t, d, line, answerBy(d, line))
			}
		}
	}
}

func TestPromise61EachNumberUpToTheBoundIsAnswered(t *testing.T) {
	for _, p := range []impl.Pair{fibonacci, {P: 3, Q: 2}, {P: -2, Q: -3}, {P: 1, Q: 1}, {P: 4, Q: 0}} {
		d := impl.Desk{Now: p}
		for n := range impl.MaxRanked + 3 {
			for _, word := range []string{"first", "second", "rank", "period", "passes", "written"} {
				line := word + " " + strconv.Itoa(n)
				checkAnswer(t, d, line, answerBy(d, line))
			}
			for _, line := range []string{fmt.Sprintf("far %d 97", n), fmt.Sprintf("far 97 %d", n), fmt.Sprintf("circle %d 50", n), fmt.Sprintf("circle 50 %d", n), fmt.Sprintf("circle %d %d", n, 101-n%102)} {
				checkAnswer(t, d, line, answerBy(d, line))
			}
		}
		for n := 9900; n <= 10100; n++ {
			for _, line := range []string{fmt.Sprint("passes ", n), fmt.Sprint("written ", n), fmt.Sprint("far 12 ", n)} {
				checkAnswer(t, d, line, answerBy(d, line))
			}
		}
	}
}

func TestPromise61EachDeedIsDone(t *testing.T) {
	all := deedTexts()
	for _, d := range manyDesks() {
		for text := range all {
			want, answer := lineBy(all, d, text)
			checkLine(t, d, text, want, answer)
		}
	}
}

// The answers here were made apart from the program, by other ways of counting, to the questions in knownQuestions.
func TestPromise61KnownAnswers(t *testing.T) {
	const knownQuestions = "pair|weight|first 0|first 1|first 2|first 12|first 19|first 20|first 21|first 100|first 999999999|second 0|second 1|second 6|second 20|second 21|second 999999999|" +
		"rank 1|rank 6|rank 7|rank 35|rank 144|rank 389|rank 400|rank 401|rank 999999999|period 1|period 7|period 10|period 35|period 389|period 399|period 401|period 999999999|" +
		"passes 0|passes 1|passes 2|passes 5|passes 7|passes 9|passes 15|passes 323|passes 377|passes 705|passes 5459|passes 5777|passes 9973|passes 9999|passes 10001|passes 999999999|" +
		"far 0 1|far 1 1|far 12 0|far 100 1000|far 999999999 10000|far 999999999 9973|far 7 10001|far 1 999999999|far 999999999 999999999"
	known := map[impl.Pair]string{
		{P: 1, Q: -1}: "1,-1 5 0 1 1 144 4181 6765 none none none 2 1 18 15127 none none 1 12 8 40 12 97 300 none none 1 16 60 80 388 144 none none no no no no yes no no no no no no yes yes no no no 0 0 none 75 626 161 none none none",
		{P: 3, Q: 2}:  "3,2 1 0 1 3 4095 524287 1048575 none none none 2 3 65 1048577 none none 1 none 3 12 none 388 none none none 1 3 none 12 388 18 none none no no no yes yes no no no no no no no yes no no no 0 0 none 375 4687 4437 none none none",
		{P: -4, Q: 4}: "-4,4 0 0 1 -4 -24576 4980736 -10485760 none none none 2 -4 128 2097152 none none 1 none 7 35 none 389 none none none 1 42 none 420 150932 2394 none none no no no no no no no no no no no no no no no no 0 0 none 200 2656 8058 none none none",
		{P: 4, Q: -3}: "4,-3 28 0 1 4 19102600 892245135283 4145149007032 none none none 2 4 10054 21934066839826 none none 1 none 7 42 none 388 24 none none 1 21 24 168 388 none none none no no no yes no no no no no no no no yes no no no 0 0 none 368 8891 6771 none none none",
		{P: -1, Q: 0}: "-1,0 1 0 1 -1 -1 1 -1 none none none 2 -1 1 1 none none none none none none none none none none none none none none none none none none none no no no no no no no no no no no no no no no no 0 0 none 999 1 1 none none none",
		{P: 2, Q: 1}:  "2,1 0 0 1 2 12 19 20 none none none 2 2 2 2 none none 1 6 7 35 144 389 400 none none 1 7 10 35 389 399 none none no no no no no no no no no no no no no no no no 0 0 none 100 9999 7289 none none none",
		{P: 1, Q: 1}:  "1,1 -3 0 1 1 0 1 1 none none none 2 1 2 -1 none none 1 3 3 3 3 3 3 none none 1 6 6 6 6 6 none none no no no yes yes no no yes yes no yes yes yes no no no 0 0 none 999 0 0 none none none",
		{P: 0, Q: -1}: "0,-1 4 0 1 0 0 1 0 none none none 2 0 2 2 none none 1 2 2 2 2 2 2 none none 1 2 2 2 2 2 none none no no no yes yes yes yes yes yes yes yes yes yes yes no no 0 0 none 0 1 1 none none none",
	}
	for p, answers := range known {
		d := impl.Desk{Now: p, Past: before(3, 1)}
		for i, answer := range strings.Fields(answers) {
			checkAnswer(t, d, strings.Split(knownQuestions, "|")[i], answer)
		}
	}
}

// These answers were made apart from the program, too, and are the same at all desks.
func TestPromise61KnownNumbers(t *testing.T) {
	known := map[string]string{
		"written 0": "0", "written 1": "1", "written 2": "10", "written 3": "100", "written 4": "101", "written 11": "10100", "written 54": "10101010", "written 88": "101010101", "written 89": "1000000000",
		"written 100": "1000010100", "written 1000": "100000000100000", "written 6764": "101010101010101010", "written 6765": "1000000000000000000", "written 9999": "1010010000010001001", "written 10000": "1010010000010001010", "written 10001": "none", "written 999999999": "none",
		"circle 0 0": "0", "circle 0 100": "0", "circle 1 1": "3", "circle 2 2": "8", "circle 1 7": "18", "circle 7 1": "18", "circle 4 9": "87", "circle 9 4": "87", "circle 100 100": "22400", "circle 100 99": "22138",
		"circle 101 1": "none", "circle 1 101": "none", "circle 999999999 0": "none", "circle 0 999999999": "none", "circle 100 101": "none",
	}
	for _, d := range manyDesks() {
		for line, answer := range known {
			checkAnswer(t, d, line, answer)
		}
	}
}

func TestPromise61StrangeLinesAreWhat(t *testing.T) {
	for _, d := range fewDesks() {
		for _, line := range strangeLines() {
			want := "what"
			if questionLine.MatchString(line) {
				want = answerBy(d, line)
			}
			checkAnswer(t, d, line, want)
		}
	}
}

// Five questions are among the strange lines, since they are texts of no deeds.
func TestPromise61StrangeLinesAreNoQuestions(t *testing.T) {
	questions := []string{"pair", "weight", "first 12", "far 1 2", "circle 2 2"}
	for _, line := range strangeLines() {
		if questionLine.MatchString(line) != slices.Contains(questions, line) {
			t.Errorf("%s is not what it seems", briefly(line))
		}
	}
}

func TestPromise61NearlyQuestionsAreWhat(t *testing.T) {
	all := deedTexts()
	for _, d := range []impl.Desk{{Now: fibonacci}, {Now: impl.Pair{P: 3, Q: 2}, Past: before(impl.MaxPast, 1)}} {
		for _, line := range []string{"", "pair", "weight", "first 12", "second 0", "rank 7", "period 10", "passes 323", "written 11", "far 100 1000", "far 999999999 9", "circle 2 2", "circle 10 100", "first 999999999", "turn", "up", "down", "back", "take -3 2"} {
			nearTexts(line, func(near string) {
				want, answer := lineBy(all, d, near)
				checkLine(t, d, near, want, answer)
			})
		}
	}
}

// Each word is asked with none to four numbers, and with other words of questions behind it.
func TestPromise61EachWordHasItsNumbers(t *testing.T) {
	numbers := map[string]int{"pair": 0, "weight": 0, "first": 1, "second": 1, "rank": 1, "period": 1, "passes": 1, "written": 1, "far": 2, "circle": 2}
	for _, d := range fewDesks() {
		for word, count := range numbers {
			line := word
			for asked := range 5 {
				if asked == count {
					checkAnswer(t, d, line, answerBy(d, line))
				} else {
					checkAnswer(t, d, line, "what")
				}
				checkAnswer(t, d, line+" ", "what")
				for other := range numbers {
					checkAnswer(t, d, line+" "+other, "what")
					checkAnswer(t, d, other+" "+line, "what")
				}
				line += " 7"
			}
		}
	}
}

func TestPromise61DesksAreNewMemory(t *testing.T) {
	for _, d := range fewDesks() {
		for _, line := range []string{"", "pair", "weight", "first 12", "written 11", "turn", "up", "down", "back", "take 3 2", "take 9 0", "what"} {
			checkOwnPast(t, "DeskLine of "+line, d, func(lent impl.Desk) impl.Desk {
				after, _ := impl.DeskLine(lent, line)
				return after
			})
		}
	}
}

func TestPromise61NothingIsAnsweredAtOtherDesks(t *testing.T) {
	for _, d := range badDesks() {
		for _, line := range []string{"", "pair", "weight", "first 12", "second 6", "rank 7", "period 10", "passes 7", "far 100 1000", "written 11", "circle 2 2", "turn", "up", "down", "back", "take 3 2", "take 5 0", "what", "first x"} {
			after, answer := impl.DeskLine(d, line)
			checkNoDesk(t, "behind "+briefly(line)+" there", after)
			if answer != "" {
				t.Errorf("%s is answered at no desk by %q", briefly(line), answer)
			}
		}
	}
}

// What was said before changes nothing but the desk that is returned: it is said here upwards and downwards, with what is refused between.
func TestChapter12KeepsNothingBetweenCalls(t *testing.T) {
	desks := append(fewDesks(), manyDesks()[:60]...)
	say := func(from int) string {
		lines := mixedLines(impl.MaxLines, from)
		after, answers := impl.DeskSay(desks[from], lines)
		run, count := impl.DeskRun(desks[from], mixedDeeds(impl.MaxLines, from))
		list, read := impl.ReadJournal(linesTogether(lines[:from%5]))
		return fmt.Sprint(after, answers, run, count, list, read, impl.JournalText(list))
	}
	var said []string
	for from := range desks {
		said = append(said, say(from))
		checkNothingSaid(t, desks[from], mixedLines(impl.MaxLines+1, from))
		checkNothingSaid(t, impl.Desk{Now: behindEnd}, mixedLines(1, from))
	}
	for from := len(desks) - 1; from >= 0; from-- {
		if got := say(from); got != said[from] {
			t.Errorf("at %v was said %.60q, and then %.60q", desks[from], said[from], got)
		}
	}
}
