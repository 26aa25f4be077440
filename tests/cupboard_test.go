package tests

import (
	"math"
	"math/rand"
	"slices"
	"testing"

	"loop.example/g00060/impl"
)

// linesOf takes a kind and an amount for each line.
func linesOf(numbers ...int64) []impl.Line {
	var lines []impl.Line
	for at := 0; at < len(numbers); at += 2 {
		lines = append(lines, impl.Line{Kind: numbers[at], Amount: numbers[at+1], By: 1, Also: 2})
	}
	return lines
}

func isLine(l impl.Line) bool {
	amount := within(l.Kind, 1, 3) && within(l.Amount, 1, 1000000000) || l.Kind == 4 && within(l.Amount, 0, 1000000000)
	return amount && within(l.By, 0, 999) && within(l.Also, 0, 999) && l.By != l.Also
}

// thereBehind sums up, of the lines that were taken by what was told of them, what came and went.
func thereBehind(start int64, lines []impl.Line, told []int64) int64 {
	signs := [5]int64{1: 1, 2: -1, 3: -1}
	there := start
	for at, l := range lines {
		if told[at] >= 0 {
			there += signs[l.Kind] * l.Amount
		}
	}
	return there
}

// wantedBook reckons for each line anew from the start on.
func wantedBook(start int64, lines []impl.Line) []int64 {
	told := []int64{}
	if !within(start, 0, 1000000000) || len(lines) > 1000 {
		return told
	}
	for at, l := range lines {
		there := thereBehind(start, lines[:at], told)
		answer := int64(0)
		switch {
		case !isLine(l):
			answer = -1
		case (l.Kind == 2 || l.Kind == 3) && there < l.Amount:
			answer = -2
		case l.Kind == 1 && there+l.Amount > 1000000000:
			answer = -3
		case l.Kind == 4 && there != l.Amount:
			answer = -4
		default:
			answer = thereBehind(start, lines[:at+1], append(told, 0))
		}
		told = append(told, answer)
	}
	return told
}

func checkBook(t *testing.T, what string, start int64, lines []impl.Line, want ...int64) {
	t.Helper()
	if got := impl.Book(start, lines); !slices.Equal(got, want) {
		t.Errorf("%s: Book(%d, %v) = %v, want %v", what, start, lines, got, want)
	}
	if told := wantedBook(start, lines); !slices.Equal(told, want) {
		t.Errorf("%s: the test itself tells %v, want %v", what, told, want)
	}
}

func checkBookAsTold(t *testing.T, start int64, lines []impl.Line) []int64 {
	t.Helper()
	want := wantedBook(start, lines)
	got := impl.Book(start, lines)
	if !slices.Equal(got, want) {
		t.Fatalf("Book(%d, %v) = %v, want %v", start, lines, got, want)
	}
	return got
}

func TestBookOfADay(t *testing.T) {
	checkBook(t, "each kind", 10, linesOf(1, 5, 2, 3, 3, 2, 4, 10, 2, 10, 4, 0, 1, 7), 15, 12, 10, 10, 0, 0, 7)
	checkBook(t, "each that is wrong", 10, linesOf(5, 1, 2, 11, 3, 11, 1, 1000000000, 4, 9, 4, 10), -1, -2, -2, -3, -4, 10)
	checkBook(t, "behind what was not taken", 10, linesOf(2, 11, 2, 10, 2, 1, 1, 4, 4, 3, 4, 4), -2, 0, -2, 4, -4, 4)
	checkBook(t, "what was counted wrongly changes nothing", 10, linesOf(4, 3, 2, 10), -4, 0)
	checkBook(t, "what is not as told changes nothing", 10, linesOf(1, 0, 0, 5, 2, -5, 4, 10), -1, -1, -1, 10)
	checkBook(t, "what is too much changes nothing", 10, linesOf(1, 999999991, 1, 999999990, 1, 1, 2, 1000000000), -3, 1000000000, -3, 0)
}

func TestStartsOfBooks(t *testing.T) {
	for _, start := range []int64{math.MinInt64, -1, 1000000001, math.MaxInt64} {
		checkBook(t, "start", start, nil)
		checkBook(t, "start, with lines", start, linesOf(1, 5, 4, 0, 9, 9))
	}
	for _, start := range []int64{0, 1, 999999999, 1000000000} {
		checkBook(t, "no lines", start, nil)
		checkBook(t, "no lines, but not nil", start, []impl.Line{})
		checkBook(t, "counted", start, linesOf(4, start), start)
		checkBook(t, "counted, one more", start, linesOf(4, start+1), map[bool]int64{true: -1, false: -4}[start == 1000000000])
		checkBook(t, "counted, one less", start, linesOf(4, start-1), map[bool]int64{true: -1, false: -4}[start == 0])
	}
}

func TestHowManyLines(t *testing.T) {
	lines := slices.Repeat(linesOf(1, 1), 1002)
	for _, count := range []int{1, 999, 1000} {
		told := checkBookAsTold(t, 5, lines[:count])
		if len(told) != count || told[count-1] != 5+int64(count) {
			t.Error(count, told)
		}
	}
	checkBook(t, "one too many", 5, lines[:1001])
	checkBook(t, "two too many", 5, lines)
	wrong := slices.Repeat(linesOf(0, 0), 1001)
	if told := checkBookAsTold(t, 5, wrong[:1000]); len(told) != 1000 || slices.Max(told) != -1 {
		t.Error(told)
	}
	checkBook(t, "one too many, none of which would be taken", 5, wrong)
}

func TestAmountsOfLines(t *testing.T) {
	for _, r := range []struct {
		start, kind, amount, told int64
	}{
		{0, 1, 0, -1}, {0, 1, 1, 1}, {0, 1, 999999999, 999999999}, {0, 1, 1000000000, 1000000000}, {0, 1, 1000000001, -1}, {0, 1, -1, -1},
		{1, 1, 999999999, 1000000000}, {1, 1, 1000000000, -3}, {999999999, 1, 1, 1000000000}, {999999999, 1, 2, -3}, {1000000000, 1, 1, -3}, {1000000000, 1, 0, -1}, {1000000000, 1, 1000000000, -3}, {1000000000, 1, 1000000001, -1},
		{9, 2, 0, -1}, {9, 2, 1, 8}, {9, 2, 8, 1}, {9, 2, 9, 0}, {9, 2, 10, -2}, {9, 2, 1000000000, -2}, {9, 2, 1000000001, -1}, {9, 2, -1, -1},
		{0, 2, 0, -1}, {0, 2, 1, -2}, {1000000000, 2, 1000000000, 0}, {1000000000, 2, 1000000001, -1}, {999999999, 2, 1000000000, -2}, {1000000000, 2, 1, 999999999},
		{9, 3, 0, -1}, {9, 3, 1, 8}, {9, 3, 8, 1}, {9, 3, 9, 0}, {9, 3, 10, -2}, {9, 3, 1000000000, -2}, {9, 3, 1000000001, -1}, {9, 3, -1, -1},
		{0, 3, 0, -1}, {0, 3, 1, -2}, {1000000000, 3, 1000000000, 0}, {1000000000, 3, 1000000001, -1}, {999999999, 3, 1000000000, -2},
		{0, 4, 0, 0}, {0, 4, 1, -4}, {0, 4, -1, -1}, {1, 4, 0, -4}, {1, 4, 1, 1}, {9, 4, 8, -4}, {9, 4, 9, 9}, {9, 4, 10, -4},
		{1000000000, 4, 1000000000, 1000000000}, {1000000000, 4, 1000000001, -1}, {1000000000, 4, 999999999, -4}, {0, 4, 1000000000, -4},
	} {
		checkBook(t, "an amount", r.start, linesOf(r.kind, r.amount), r.told)
	}
	for kind := int64(1); kind <= 4; kind++ {
		for _, start := range []int64{0, 500, 1000000000} {
			for _, amount := range []int64{math.MinInt64, math.MinInt64 + 1000000000, -1000000000, math.MaxInt64 - 1000000000, math.MaxInt64} {
				checkBook(t, "wild", start, linesOf(kind, amount), -1)
			}
		}
	}
}

func TestKindsOfLines(t *testing.T) {
	for _, kind := range []int64{math.MinInt64, -1, 0, 5, 6, math.MaxInt64} {
		for _, amount := range []int64{0, 1, 9, 10} {
			checkBook(t, "no kind", 9, append(linesOf(kind, amount), linesOf(4, 9)...), -1, 9)
		}
	}
}

func TestPeopleOfLines(t *testing.T) {
	wild := []int64{math.MinInt64, -2, -1, 0, 1, 2, 998, 999, 1000, math.MaxInt64}
	for _, by := range wild {
		for _, also := range wild {
			for kind, there := range map[int64]int64{1: 18, 2: 0, 3: 0, 4: 9} {
				right := within(by, 0, 999) && within(also, 0, 999) && by != also
				line := impl.Line{Kind: kind, Amount: 9, By: by, Also: also}
				if right {
					checkBook(t, "people", 9, []impl.Line{line}, there)
					continue
				}
				checkBook(t, "people", 9, []impl.Line{line}, -1)
				line.Amount = 1000000000
				checkBook(t, "not as told, and not what is there", 9, []impl.Line{line}, -1)
			}
		}
	}
}

// randomLines are mostly right; amounts are small, or near the greatest.
func randomLines(coins *rand.Rand, count int) []impl.Line {
	lines := make([]impl.Line, count)
	for at := range lines {
		lines[at] = impl.Line{Kind: 1 + coins.Int63n(4), Amount: coins.Int63n(12), By: coins.Int63n(5), Also: 5 + coins.Int63n(5)}
		switch coins.Intn(12) {
		case 0:
			lines[at].Amount = 1000000000 - coins.Int63n(12)
		case 1:
			wild := []int64{math.MinInt64, -1, 0, 5, 6, 1000, 1000000001, math.MaxInt64}
			l := &lines[at]
			*[]*int64{&l.Kind, &l.Amount, &l.By, &l.Also}[coins.Intn(4)] = wild[coins.Intn(len(wild))]
		}
	}
	return lines
}

// balances goes by what was told alone: each line that was taken makes of what the last one taken left what it says.
func balances(start int64, lines []impl.Line, told []int64) bool {
	there := start
	for at, l := range lines {
		if told[at] < 0 {
			continue
		}
		came, went := int64(0), int64(0)
		switch l.Kind {
		case 1:
			came = l.Amount
		case 2, 3:
			went = l.Amount
		}
		if there+came != told[at]+went || l.Kind == 4 && told[at] != l.Amount {
			return false
		}
		there = told[at]
	}
	return true
}

// Promise 13: a book's lines, those that were taken, balance.
func TestBooksBalance(t *testing.T) {
	coins := rand.New(rand.NewSource(105))
	seen := map[int64]int{}
	for range 6000 {
		start := []int64{0, coins.Int63n(20), coins.Int63n(1000000001), 1000000000 - coins.Int63n(20)}[coins.Intn(4)]
		lines := randomLines(coins, coins.Intn(40))
		told := checkBookAsTold(t, start, lines)
		if len(told) != len(lines) || !balances(start, lines, told) {
			t.Fatalf("%d, %v: %v", start, lines, told)
		}
		taken := []impl.Line{}
		for at, answer := range told {
			if !within(answer, -4, 1000000000) || answer >= 0 && !isLine(lines[at]) {
				t.Fatalf("%+v: %d", lines[at], answer)
			}
			seen[min(0, answer)]++
			if answer >= 0 {
				taken = append(taken, lines[at])
			}
		}
		// Without what was not taken the book is the same.
		if again := impl.Book(start, taken); slices.ContainsFunc(again, func(n int64) bool { return n < 0 }) || len(again) > 0 && again[len(again)-1] != thereBehind(start, lines, told) {
			t.Fatalf("%d, %v: %v", start, taken, again)
		}
	}
	for answer := int64(-4); answer <= 0; answer++ {
		if seen[answer] < 500 {
			t.Error(seen)
		}
	}
	for range 20 {
		checkBookAsTold(t, coins.Int63n(50), randomLines(coins, 1000))
	}
}

func TestLinesStayAndBooksAreNewMemory(t *testing.T) {
	room := linesOf(1, 5, 2, 3, 3, 20, 4, 9, 4, 12, 9, 9)
	before := slices.Clone(room)
	one, other := impl.Book(10, room[:4]), impl.Book(10, room[:4])
	clear(other[:cap(other)])
	if !slices.Equal(one, []int64{15, 12, -2, -4}) || !slices.Equal(room, before) {
		t.Fatal(one, room)
	}
}
