package tests

import (
	"slices"
	"strconv"
	"strings"
	"testing"

	"loop.example/g00060/impl"
)

// A deskCase is a line that is answered with ok behind the lines ahead of it.
type deskCase struct {
	ahead  []string
	line   string
	answer string
}

func lyingIn() []string { return []string{"bed 1 1", "bed 2 2", "bed 3 3", "in 4 1 1 0 10"} }

func orderedAt() []string { return []string{"ask 7 4 2 30 100 60 2 0", "ready 7"} }

// deskCases has one for each line of the document's table.
func deskCases() []deskCase {
	return []deskCase{
		{[]string{"bed 1 1"}, "bed 1 2", "ok 2"},
		{[]string{"bed 1 1"}, "in 4 1 1 0 10", "ok"},
		{lyingIn(), "to 4 1 20", "ok"},
		{lyingIn(), "out 4 20", "ok"},
		{lyingIn(), "where 4 10", "ok 0"},
		{lyingIn()[:3], "free 1 1", "ok 0 1"},
		{nil, "ask 7 4 2 30 100 60 2 0", "ok"},
		{orderedAt()[:1], "ready 7", "ok"},
		{orderedAt(), "hold 7", "ok"},
		{orderedAt(), "end 7", "ok"},
		{orderedAt(), "give 7 4 2 30 130 5 -1", "ok 0"},
		{orderedAt(), "due 130", "ok 7.0 7.1"},
		{nil, "urgency 15 97 120 70 1 370", "ok 4"},
	}
}

// asksAll tells what a house and a chart are: lines that change nothing.
func asksAll() []string {
	return []string{
		"where 4 9", "where 4 10", "where 4 20", "free 1 1", "free 1 2", "free 1 3", "free 2 1", "free 2 2", "free 2 3",
		"due 0", "due 70", "due 100", "due 130", "due 160", "due 220", "due 221",
	}
}

func TestEachLineOfADesk(t *testing.T) {
	if cases := deskCases(); len(cases) != len(numbersOf) {
		t.Fatal(len(cases))
	}
	for _, c := range deskCases() {
		checkLines(t, "a right line", c.ahead, []string{c.line}, c.answer)
	}
}

func TestOneWordTooFewOrTooMany(t *testing.T) {
	for _, c := range deskCases() {
		words := strings.Split(c.line, " ")
		for at := range words {
			fewer := strings.Join(slices.Delete(slices.Clone(words), at, at+1), " ")
			checkLines(t, "a word too few", c.ahead, []string{fewer, c.line}, "error 1", c.answer)
		}
		for at := 1; at <= len(words); at++ {
			for _, word := range []string{"0", "1", "-1", "x", ""} {
				more := strings.Join(slices.Insert(slices.Clone(words), at, word), " ")
				checkLines(t, "a word too many", c.ahead, []string{more, c.line}, "error 1", c.answer)
			}
		}
		checkLines(t, "the first word alone", c.ahead, []string{words[0], c.line}, "error 1", c.answer)
		checkLines(t, "the line twice in one", c.ahead, []string{c.line + " " + c.line, c.line}, "error 1", c.answer)
	}
}

// withWord is the line with another word at that place.
func withWord(line string, at int, word string) string {
	words := strings.Split(line, " ")
	words[at] = word
	return strings.Join(words, " ")
}

func TestWordsThatAreNoNumbers(t *testing.T) {
	none := []string{
		"", "x", "-", "+", "+0", "+1", "--1", "-+1", "+-1", "1-", "1+", "1a", "a1", "1a1", "-1a", "-a", "01", "00", "000000001", "-0", "-01", "-00", "1.0", "1.", ".1", "1,0", "1e1", "0x1", "0b1", "0o1", "1_0",
		"1000000000", "1000000001", "-1000000000", "9999999999", "2147483648", "4294967297", "9223372036854775807", "9223372036854775808", "-9223372036854775808", "-9223372036854775809",
		"18446744073709551616", "18446744073709551617", "18446744073709551620", strings.Repeat("1", 50), strings.Repeat("0", 50), "0000000000", "\x001", "1\x00", "1\t", "\t1", "1\r", "١", "１", "½", "−1", "NaN", "nil", "true", "one", "ok",
	}
	for _, c := range deskCases() {
		for at := 1; at <= strings.Count(c.line, " "); at++ {
			for _, word := range none {
				lines := []string{withWord(c.line, at, word), c.line}
				checkLines(t, "a word that is no number", c.ahead, lines, "error 1", c.answer)
			}
		}
	}
}

// deskEdges are numbers at all edges that the chapters name, and about them.
func deskEdges() []int64 {
	edges := []int64{-999999999, 999999999, 999999998}
	for _, edge := range []int64{-1, 1, 8, 11, 20, 24, 30, 40, 50, 60, 90, 95, 99, 110, 130, 160, 200, 219, 350, 380, 400, 460, 999, 1000, 1440, 100000, 10000000} {
		edges = append(edges, edge-1, edge, edge+1)
	}
	return edges
}

// A number of the right form is left to the chapters, however great or small.
func TestNumbersAtAllEdges(t *testing.T) {
	for _, c := range deskCases() {
		for at := 1; at <= strings.Count(c.line, " "); at++ {
			for _, n := range deskEdges() {
				line := withWord(c.line, at, strconv.FormatInt(n, 10))
				text := textOf(slices.Concat(c.ahead, []string{line}, asksAll(), []string{c.line}, asksAll())...)
				answer := deskLinesOf(checkDeskAsTold(t, "at an edge", text))[len(c.ahead)]
				isTwo := strings.HasPrefix(line, "ask ") && at == 8
				if wantNone := isTwo && !within(n, 0, 1); (answer == "error 1") != wantNone {
					t.Errorf("%q: %q", line, answer)
				}
			}
		}
	}
}

func TestTwoIsNoughtOrOne(t *testing.T) {
	ask := func(two string) []string { return []string{"ask 7 4 2 30 100 60 2 " + two, "ready 7", "due 100"} }
	for _, two := range []string{"-1", "2", "3", "10", "-2", "999999999"} {
		checkLines(t, "TWO is none", nil, ask(two), "error 1", "error 2 4", "ok")
	}
	checkLines(t, "one gives it", ask("0"), []string{"give 7 4 2 30 100 5 6", "give 7 4 2 30 100 5 -1"}, "error 2 10", "ok 0")
	checkLines(t, "two give it", ask("1"), []string{"give 7 4 2 30 100 5 -1", "give 7 4 2 30 100 5 5", "give 7 4 2 30 100 5 6"}, "error 2 10", "error 2 10", "ok 0")
	checkLines(t, "TWO is none, though the order would be refused", nil, []string{"ask 0 4 2 30 100 60 2 2", "ask 0 4 2 30 100 60 2 1"}, "error 1", "error 2 2")
}

func TestBedsAtADesk(t *testing.T) {
	for _, line := range []string{"bed -1 1", "bed 1000 1", "bed 1 0", "bed 1 4", "bed 1 -1", "bed -999999999 1", "bed 999999999 2", "bed 1 999999999"} {
		checkLines(t, "out of range", nil, []string{line, "bed 1 1"}, "error 3", "ok 1")
	}
	checkLines(t, "at the edges", nil, []string{"bed 0 1", "bed 999 1", "bed 0 2", "bed 5 3"}, "ok 1", "ok 2", "ok 3", "ok 4")
	checkLines(t, "alone where there is a bed", []string{"bed 1 1"}, []string{"bed 1 3", "bed 2 3", "bed 1 1"}, "error 3", "ok 2", "ok 3")
	checkLines(t, "where somebody is alone", []string{"bed 1 3"}, []string{"bed 1 1", "bed 1 2", "bed 1 3", "bed 2 1"}, "error 3", "error 3", "error 3", "ok 2")
	checkLines(t, "a bed that comes later", lyingIn(), []string{"bed 1 2", "free 1 2", "free 2 2", "to 4 3 20", "where 4 20"}, "ok 4", "ok 1 3", "ok 1", "ok", "ok 3")
}

func TestCodesOfMovesAtADesk(t *testing.T) {
	ahead := append(lyingIn(), "in 5 2 2 1 30")
	for _, c := range []struct {
		line string
		code int64
	}{
		{"in -1 1 1 1 40", 2}, {"in 1000 1 1 1 40", 2}, {"in 6 0 1 1 40", 2}, {"in 6 3 1 1 40", 2}, {"in 6 1 0 1 40", 2}, {"in 6 1 4 1 40", 2},
		{"in 6 1 3 -1 40", 2}, {"in 6 1 3 3 40", 2}, {"in 6 1 3 2 -1", 2}, {"in 6 1 3 2 10000001", 2},
		{"in 6 1 3 2 29", 3}, {"in 4 1 3 2 0", 3}, {"in 4 1 3 2 30", 4}, {"in 5 1 3 2 10000000", 4},
		{"in 6 1 1 0 30", 6}, {"in 6 1 1 1 30", 6}, {"in 6 1 1 2 30", 6}, {"in 6 1 3 0 30", 6}, {"in 6 2 2 2 30", 6},
		{"to -1 2 40", 2}, {"to 1000 2 40", 2}, {"to 4 -1 40", 2}, {"to 4 3 40", 2}, {"to 4 2 -1", 2}, {"to 4 2 10000001", 2},
		{"to 4 2 29", 3}, {"to 6 2 29", 3}, {"to 6 2 30", 5}, {"to 4 1 30", 6}, {"to 4 2 30", 6}, {"to 5 0 30", 6},
		{"out -1 40", 2}, {"out 1000 40", 2}, {"out 4 -1", 2}, {"out 4 10000001", 2}, {"out 4 29", 3}, {"out 6 29", 3}, {"out 6 30", 5},
	} {
		refused := "error 2 " + strconv.FormatInt(c.code, 10)
		checkLines(t, "a move that is refused", ahead, []string{c.line}, refused)
		plain := deskLinesOf(checkDeskAsTold(t, "without it", textOf(slices.Concat(ahead, asksAll())...)))[len(ahead):]
		checkLines(t, "a move that is refused changes nothing", ahead, append([]string{c.line}, asksAll()...), append([]string{refused}, plain...)...)
	}
	for _, line := range []string{"in 6 1 3 2 30", "in 0 2 3 2 10000000", "in 999 1 3 2 30", "to 4 0 30", "to 5 1 10000000", "out 4 30", "out 5 10000000"} {
		checkLines(t, "a move at an edge", ahead, []string{line}, "ok")
	}
}

func TestCodesOfDeedsAtADesk(t *testing.T) {
	ahead := append(orderedAt(),
		"ask 1 0 1 1 0 1 1 0", "ask 100000 999 1000 999999999 10000000 1440 200 1", "ask 8 4 2 30 100 60 2 0", "ready 8", "hold 8", "ask 9 4 2 30 100 60 2 0", "end 9",
		"ask 10 4 2 30 90 60 2 1", "ready 10", "give 10 4 2 30 120 5 6")
	for _, c := range []struct {
		line string
		code int64
	}{
		{"ask 0 4 2 30 100 60 2 0", 2}, {"ask 100001 4 2 30 100 60 2 0", 2}, {"ask 2 -1 2 30 100 60 2 0", 2}, {"ask 2 1000 2 30 100 60 2 0", 2}, {"ask 2 4 0 30 100 60 2 0", 2}, {"ask 2 4 1001 30 100 60 2 0", 2},
		{"ask 2 4 2 0 100 60 2 0", 2}, {"ask 2 4 2 -1 100 60 2 0", 2}, {"ask 2 4 2 30 -1 60 2 0", 2}, {"ask 2 4 2 30 10000001 60 2 0", 2}, {"ask 2 4 2 30 100 0 2 0", 2}, {"ask 2 4 2 30 100 1441 2 0", 2},
		{"ask 2 4 2 30 100 60 0 0", 2}, {"ask 2 4 2 30 100 60 201 0", 2}, {"ask 7 4 2 30 100 60 2 0", 3}, {"ask 9 4 2 30 100 60 2 0", 3}, {"ask 7 1000 2 30 100 60 2 0", 2},
		{"ready 0", 2}, {"ready 100001", 2}, {"ready 2", 4}, {"ready 7", 5}, {"ready 9", 5},
		{"hold 0", 2}, {"hold 100001", 2}, {"hold 2", 4}, {"hold 1", 5}, {"hold 8", 5}, {"hold 9", 5},
		{"end 0", 2}, {"end 100001", 2}, {"end 2", 4}, {"end 9", 5},
		{"give 0 4 2 30 130 5 -1", 2}, {"give 100001 4 2 30 130 5 -1", 2}, {"give 7 -1 2 30 130 5 -1", 2}, {"give 7 1000 2 30 130 5 -1", 2}, {"give 7 4 0 30 130 5 -1", 2}, {"give 7 4 1001 30 130 5 -1", 2},
		{"give 7 4 2 0 130 5 -1", 2}, {"give 7 4 2 30 -1 5 -1", 2}, {"give 7 4 2 30 10000001 5 -1", 2}, {"give 7 4 2 30 130 -1 -1", 2}, {"give 7 4 2 30 130 1000 -1", 2}, {"give 7 4 2 30 130 5 -2", 2}, {"give 7 4 2 30 130 5 1000", 2},
		{"give 2 4 2 30 130 5 -1", 4}, {"give 1 0 1 1 130 5 -1", 5}, {"give 8 4 2 30 130 5 -1", 5}, {"give 9 4 2 30 130 5 -1", 5},
		{"give 7 3 2 30 130 5 -1", 6}, {"give 7 3 9 9 9 9 9", 6}, {"give 7 4 3 30 130 5 -1", 7}, {"give 7 4 3 9 9 9 9", 7}, {"give 7 4 2 31 130 5 -1", 8}, {"give 7 4 2 31 9 9 9", 8},
		{"give 7 4 2 30 69 5 -1", 9}, {"give 7 4 2 30 221 5 -1", 9}, {"give 10 4 2 30 119 5 6", 9}, {"give 7 4 2 30 130 5 6", 10}, {"give 7 4 2 30 130 5 5", 10}, {"give 7 4 2 30 100 5 6", 10},
		{"give 10 4 2 30 130 5 -1", 10}, {"give 10 4 2 30 130 5 5", 10}, {"give 7 4 2 30 119 5 -1", 11}, {"give 7 4 2 30 70 5 -1", 11},
	} {
		refused := "error 2 " + strconv.FormatInt(c.code, 10)
		checkLines(t, "a deed that is refused", ahead, []string{c.line}, refused)
		plain := deskLinesOf(checkDeskAsTold(t, "without it", textOf(slices.Concat(ahead, asksAll())...)))[len(ahead):]
		checkLines(t, "a deed that is refused changes nothing", ahead, append([]string{c.line}, asksAll()...), append([]string{refused}, plain...)...)
	}
	for _, line := range []string{"ask 2 0 1 1 0 1 1 1", "ask 99999 999 1000 999999999 10000000 1440 200 0", "ready 1", "ready 8", "ready 100000", "hold 7", "end 1", "end 7", "end 8"} {
		checkLines(t, "a deed at an edge", ahead, []string{line}, "ok")
	}
	checkLines(t, "given in time", ahead, []string{"give 7 4 2 30 120 0 -1", "give 7 4 2 30 130 999 -1", "give 10 4 2 30 130 999 0"}, "ok 0", "ok 1", "ok 1")
	checkLines(t, "given as late as may be", ahead, []string{"give 7 4 2 30 161 5 -1", "give 7 4 2 30 220 5 -1"}, "ok 1", "error 2 9")
}

func TestMostOrdersOfADesk(t *testing.T) {
	asks, answers := []string{}, []string{}
	for id := range impl.MaxOrders {
		asks, answers = append(asks, "ask "+strconv.Itoa(100-id)+" 4 2 30 100 60 2 0"), append(answers, "ok")
	}
	checkLines(t, "as many orders as may be", nil, asks, answers...)
	checkLines(t, "one more", asks, []string{"ask 101 4 2 30 100 60 2 0", "ask 100 4 2 30 100 60 2 0", "ready 101", "ready 100", "due 100"}, "error 2 12", "error 2 3", "error 2 4", "ok", "ok 100.0")
	checkLines(t, "one that has ended still counts", append(asks, "end 1"), []string{"ask 101 4 2 30 100 60 2 0"}, "error 2 12")
}

func TestWhereFreeAndDueAtTheirEdges(t *testing.T) {
	ahead := slices.Concat(lyingIn(), []string{"in 0 2 2 1 10", "in 999 1 3 2 10"}, orderedAt(), []string{"ask 3 4 2 30 10000000 1440 200 0", "ready 3", "ask 2 4 2 30 0 30 3 1", "ready 2"})
	for _, c := range []struct{ line, answer string }{
		{"where 0 10", "ok 1"}, {"where 999 10", "ok 2"}, {"where -1 10", "error 3"}, {"where 1000 10", "error 3"}, {"where 4 0", "ok -1"}, {"where 4 9", "ok -1"}, {"where 4 10", "ok 0"}, {"where 5 10", "ok -1"},
		{"where 4 10000000", "ok 0"}, {"where 4 10000001", "error 3"}, {"where 4 -1", "error 3"}, {"where -999999999 999999999", "error 3"}, {"where 5 -1", "error 3"}, {"where 1000 0", "error 3"},
		{"free 1 1", "ok"}, {"free 1 2", "ok"}, {"free 2 3", "ok"}, {"free 0 1", "error 3"}, {"free 3 1", "error 3"}, {"free -1 1", "error 3"}, {"free 1 0", "error 3"}, {"free 2 4", "error 3"}, {"free 1 -1", "error 3"},
		{"free 999999999 1", "error 3"}, {"free 1 -999999999", "error 3"},
		{"due -1", "error 3"}, {"due 0", "ok 2.0 2.1"}, {"due 30", "ok 2.0 2.1 2.2"}, {"due 60", "ok 2.0 2.1 2.2"}, {"due 61", "ok 2.1 2.2"}, {"due 69", "ok 2.1 2.2"}, {"due 70", "ok 2.1 2.2 7.0"},
		{"due 120", "ok 2.2 7.0"}, {"due 121", "ok 7.0"}, {"due 129", "ok 7.0"}, {"due 130", "ok 7.0 7.1"}, {"due 161", "ok 7.1"}, {"due 220", "ok 7.1"}, {"due 221", "ok"},
		{"due 9999969", "ok"}, {"due 9999970", "ok 3.0"}, {"due 10000000", "ok 3.0"}, {"due 10000001", "error 3"}, {"due 999999999", "error 3"}, {"due -999999999", "error 3"},
	} {
		checkLines(t, "at an edge", ahead, []string{c.line}, c.answer)
	}
	checkLines(t, "free beds", lyingIn(), []string{"free 1 1", "free 1 2", "free 1 3", "free 2 1", "free 2 2", "free 2 3"}, "ok 1", "ok 1", "ok 2", "ok 1", "ok 1", "ok 2")
	checkLines(t, "beds of a house without beds", nil, []string{"free 1 1", "free 2 3", "where 0 0", "where 999 10000000", "due 0", "due 10000000"}, "ok", "ok", "ok -1", "ok -1", "ok", "ok")
}

func TestUrgencyAtADesk(t *testing.T) {
	for _, c := range []struct{ line, answer string }{
		{"urgency 15 97 120 70 1 370", "ok 4"}, {"urgency -1 -1 -1 -1 -1 -1", "ok 5"}, {"urgency 15 97 120 70 1 -1", "ok 5"}, {"urgency -1 97 120 70 1 370", "ok 5"}, {"urgency 15 -1 120 70 1 370", "ok 5"},
		{"urgency 15 97 -1 70 1 370", "ok 5"}, {"urgency 15 97 120 -1 1 370", "ok 5"}, {"urgency 15 97 120 70 -1 370", "ok 5"}, {"urgency 15 97 120 70 0 370", "ok 2"}, {"urgency -1 -1 -1 -1 0 -1", "ok 2"},
		{"urgency 11 97 120 70 1 370", "ok 3"}, {"urgency -1 95 -1 -1 -1 -1", "ok 3"}, {"urgency 21 93 120 91 1 370", "ok 2"}, {"urgency 8 91 110 70 1 370", "ok 1"}, {"urgency 0 0 0 0 0 200", "ok 1"},
		{"urgency 99 100 400 400 1 460", "ok 1"}, {"urgency -2 97 120 70 1 370", "ok 0"}, {"urgency 100 97 120 70 1 370", "ok 0"}, {"urgency 15 101 120 70 1 370", "ok 0"}, {"urgency 15 97 401 70 1 370", "ok 0"},
		{"urgency 15 97 120 401 1 370", "ok 0"}, {"urgency 15 97 120 70 2 370", "ok 0"}, {"urgency 15 97 120 70 1 199", "ok 0"}, {"urgency 15 97 120 70 1 461", "ok 0"}, {"urgency 15 97 120 70 1 0", "ok 0"},
		{"urgency 999999999 97 120 70 1 370", "ok 0"}, {"urgency 15 -999999999 120 70 1 370", "ok 0"},
	} {
		checkDeskText(t, "urgency", c.line, c.answer)
	}
	for place, line := range vitalLines() {
		for _, base := range []string{"urgency 15 97 120 70 1 370", "urgency -1 -1 -1 -1 -1 -1", "urgency 20 93 105 95 1 385"} {
			text := []string{}
			for _, n := range slices.Concat(bandEnds(line), []int64{line.from - 1, line.to + 1, -2, -1, 999999999, -999999999}) {
				text = append(text, withWord(base, place+1, strconv.FormatInt(n, 10)))
			}
			checkDeskAsTold(t, "urgency at the edges of the table", textOf(text...))
		}
	}
}
