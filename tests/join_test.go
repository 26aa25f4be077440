package tests

import (
	"math"
	"math/rand"
	"slices"
	"testing"

	"loop.example/g00060/impl"
)

// The tests of joins hold the program against the document's words, pair by pair, with no map.

func isBook(joins []impl.Join) bool {
	if len(joins) > 200 {
		return false
	}
	for i, a := range joins {
		if a.Keep < 0 || a.Keep > 999 || a.Gone < 0 || a.Gone > 999 || a.Keep == a.Gone {
			return false
		}
		for _, b := range joins[i+1:] {
			if a.Gone == b.Gone || a.Gone == b.Keep {
				return false
			}
		}
	}
	return true
}

func wantedPerson(joins []impl.Join, id int64) int64 {
	if !isBook(joins) || id < 0 || id > 999 {
		return -1
	}
	for _, join := range joins {
		if join.Gone == id {
			id = join.Keep
		}
	}
	return id
}

func goneIn(joins []impl.Join, id int64) int {
	return slices.IndexFunc(joins, func(join impl.Join) bool { return join.Gone == id })
}

func wantedJoinDo(joins []impl.Join, keep, gone int64) ([]impl.Join, int64) {
	inside := func(id int64) bool { return id >= 0 && id < 1000 }
	switch {
	case !isBook(joins):
		return nil, 1
	case !inside(keep) || !inside(gone) || keep == gone:
		return joins, 2
	case goneIn(joins, keep) >= 0 || goneIn(joins, gone) >= 0:
		return joins, 3
	case len(joins) == 200:
		return joins, 4
	}
	return append(slices.Clone(joins), impl.Join{Keep: keep, Gone: gone}), 0
}

func wantedJoinUndo(joins []impl.Join, gone int64) ([]impl.Join, int64) {
	if !isBook(joins) {
		return nil, 1
	}
	at := goneIn(joins, gone)
	if at < 0 {
		return joins, 5
	}
	return slices.Concat(joins[:at], joins[at+1:]), 0
}

func wantedTogether(joins []impl.Join, id int64) []int64 {
	stands := wantedPerson(joins, id)
	var all []int64
	if stands < 0 {
		return all
	}
	for other := int64(0); other < 1000; other++ {
		if wantedPerson(joins, other) == stands {
			all = append(all, other)
		}
	}
	return all
}

var idEdges = []int64{math.MinInt64, -1000, -1, 0, 1, 2, 3, 4, 5, 500, 998, 999, 1000, 1001, math.MaxInt64}

// chainOf has count Joins, each keeping what the next has gone.
func chainOf(count int) []impl.Join {
	var joins []impl.Join
	for i := range int64(count) {
		joins = append(joins, impl.Join{Keep: i + 1, Gone: i})
	}
	return joins
}

// starOf has count Joins that keep the last person of all.
func starOf(count int) []impl.Join {
	var joins []impl.Join
	for i := range int64(count) {
		joins = append(joins, impl.Join{Keep: 999, Gone: 2 * i})
	}
	return joins
}

func randomBook(coins *rand.Rand, most int, persons int64) []impl.Join {
	var joins []impl.Join
	for range coins.Intn(most + 1) {
		next := append(slices.Clone(joins), impl.Join{Keep: coins.Int63n(persons), Gone: coins.Int63n(persons)})
		if isBook(next) {
			joins = next
		}
	}
	return joins
}

type namedJoins struct {
	name  string
	joins []impl.Join
}

func someBooks() []namedJoins {
	list := []namedJoins{
		{"nil", nil},
		{"empty", []impl.Join{}},
		{"one", []impl.Join{{Keep: 1, Gone: 2}}},
		{"outermost persons", []impl.Join{{Keep: 0, Gone: 999}}},
		{"outermost persons the other way", []impl.Join{{Keep: 999, Gone: 0}}},
		{"two kept by one", []impl.Join{{Keep: 1, Gone: 2}, {Keep: 1, Gone: 3}}},
		{"chain", []impl.Join{{Keep: 1, Gone: 2}, {Keep: 3, Gone: 1}, {Keep: 4, Gone: 3}}},
		{"falling chain", []impl.Join{{Keep: 3, Gone: 5}, {Keep: 2, Gone: 3}, {Keep: 0, Gone: 2}}},
		{"two persons apart", []impl.Join{{Keep: 4, Gone: 5}, {Keep: 2, Gone: 3}, {Keep: 1, Gone: 2}}},
		{"tree", []impl.Join{{Keep: 1, Gone: 2}, {Keep: 3, Gone: 4}, {Keep: 3, Gone: 1}, {Keep: 500, Gone: 3}, {Keep: 500, Gone: 0}}},
		{"199 in a chain", chainOf(199)},
		{"200 in a chain", chainOf(200)},
		{"199 in a star", starOf(199)},
		{"200 in a star", starOf(200)},
	}
	coins := rand.New(rand.NewSource(7))
	for range 40 {
		list = append(list, namedJoins{"random, few persons", randomBook(coins, 12, 8)})
	}
	for range 10 {
		list = append(list, namedJoins{"random", randomBook(coins, 250, 1000)})
	}
	return list
}

func noBooks() []namedJoins {
	list := []namedJoins{
		{"201 in a chain", chainOf(201)},
		{"201 in a star", starOf(201)},
		{"far too many", chainOf(900)},
		{"Gone twice", []impl.Join{{Keep: 1, Gone: 2}, {Keep: 3, Gone: 2}}},
		{"the same Join twice", []impl.Join{{Keep: 1, Gone: 2}, {Keep: 1, Gone: 2}}},
		{"Gone twice, far apart", []impl.Join{{Keep: 1, Gone: 2}, {Keep: 3, Gone: 4}, {Keep: 5, Gone: 6}, {Keep: 5, Gone: 2}}},
		{"Gone is Keep behind", []impl.Join{{Keep: 3, Gone: 1}, {Keep: 1, Gone: 2}}},
		{"Gone is Keep far behind", []impl.Join{{Keep: 3, Gone: 1}, {Keep: 5, Gone: 4}, {Keep: 1, Gone: 2}}},
		{"round of two", []impl.Join{{Keep: 1, Gone: 2}, {Keep: 2, Gone: 1}}},
		{"round of three", []impl.Join{{Keep: 1, Gone: 2}, {Keep: 3, Gone: 1}, {Keep: 2, Gone: 3}}},
	}
	for _, id := range []int64{math.MinInt64, -1, 1000, math.MaxInt64} {
		list = append(list,
			namedJoins{"Keep out of range", []impl.Join{{Keep: id, Gone: 1}}},
			namedJoins{"Gone out of range", []impl.Join{{Keep: 1, Gone: id}}},
			namedJoins{"the last one out of range", append(chainOf(5), impl.Join{Keep: 10, Gone: id})})
	}
	for _, id := range []int64{0, 7, 999} {
		list = append(list, namedJoins{"Keep and Gone the same", []impl.Join{{Keep: id, Gone: id}}},
			namedJoins{"Keep and Gone the same behind others", []impl.Join{{Keep: 1, Gone: 2}, {Keep: id, Gone: id}}})
	}
	return list
}

func TestLimitsAndCodesOfPersons(t *testing.T) {
	got := []int64{impl.MaxJoins, impl.MaxPersons, impl.JnBad, impl.JnRange, impl.JnGone, impl.JnFull, impl.JnNone}
	if want := []int64{200, 1000, 1, 2, 3, 4, 5}; !slices.Equal(got, want) {
		t.Error(got, want)
	}
}

func TestJoinsOk(t *testing.T) {
	for _, book := range someBooks() {
		if !isBook(book.joins) || !impl.JoinsOk(book.joins) {
			t.Errorf("%s: %v is a book", book.name, book.joins)
		}
	}
	for _, none := range noBooks() {
		if isBook(none.joins) || impl.JoinsOk(none.joins) {
			t.Errorf("%s: %v is no book", none.name, none.joins)
		}
	}
}

func TestJoinsOkOfAllShortLists(t *testing.T) {
	var all []impl.Join
	for keep := int64(-1); keep < 4; keep++ {
		for gone := int64(-1); gone < 4; gone++ {
			all = append(all, impl.Join{Keep: keep, Gone: gone})
		}
	}
	for _, a := range all {
		for _, b := range all {
			for _, c := range all {
				joins := []impl.Join{a, b, c}
				if got, want := impl.JoinsOk(joins), isBook(joins); got != want {
					t.Fatalf("JoinsOk(%v) = %v", joins, got)
				}
				if got, want := impl.PersonOf(joins, 1), wantedPerson(joins, 1); got != want {
					t.Fatalf("PersonOf(%v, 1) = %d, want %d", joins, got, want)
				}
			}
		}
	}
}

func TestPersonOf(t *testing.T) {
	chain := []impl.Join{{Keep: 1, Gone: 2}, {Keep: 3, Gone: 1}, {Keep: 4, Gone: 3}}
	for id, want := range map[int64]int64{2: 4, 1: 4, 3: 4, 4: 4, 0: 0, 999: 999, -1: -1, 1000: -1} {
		if got := impl.PersonOf(chain, id); got != want {
			t.Errorf("PersonOf(%v, %d) = %d, want %d", chain, id, got, want)
		}
	}
	for _, book := range someBooks() {
		for id := int64(-2); id < 1003; id++ {
			if got, want := impl.PersonOf(book.joins, id), wantedPersonInBook(book.joins, id); got != want {
				t.Fatalf("%s: PersonOf(%v, %d) = %d, want %d", book.name, book.joins, id, got, want)
			}
		}
	}
	for _, list := range append(someBooks(), noBooks()...) {
		for _, id := range idEdges {
			if got, want := impl.PersonOf(list.joins, id), wantedPerson(list.joins, id); got != want {
				t.Errorf("%s: PersonOf(%v, %d) = %d, want %d", list.name, list.joins, id, got, want)
			}
		}
	}
}

// wantedPersonInBook is wantedPerson of what is known to be a book.
func wantedPersonInBook(joins []impl.Join, id int64) int64 {
	if id < 0 || id > 999 {
		return -1
	}
	for at := goneIn(joins, id); at >= 0; at = goneIn(joins, id) {
		id = joins[at].Keep
	}
	return id
}

func TestJoinDo(t *testing.T) {
	for _, list := range append(someBooks(), noBooks()...) {
		for _, keep := range idEdges {
			for _, gone := range idEdges {
				want, code := wantedJoinDo(list.joins, keep, gone)
				got, e := impl.JoinDo(list.joins, keep, gone)
				if e != code || !slices.Equal(got, want) {
					t.Fatalf("%s: JoinDo(%v, %d, %d) = %v, %d, want %v, %d", list.name, list.joins, keep, gone, got, e, want, code)
				}
			}
		}
	}
}

func TestJoinDoTellsTheFirstCode(t *testing.T) {
	round := []impl.Join{{Keep: 1, Gone: 2}, {Keep: 2, Gone: 1}}
	full := chainOf(200)
	cases := []struct {
		what       string
		joins      []impl.Join
		keep, gone int64
		code       int64
		length     int
	}{
		{"no book, out of range", round, -1, 1000, impl.JnBad, 0},
		{"no book, both the same", round, 1, 1, impl.JnBad, 0},
		{"no book, gone already", round, 1, 2, impl.JnBad, 0},
		{"too many", chainOf(201), 300, 301, impl.JnBad, 0},
		{"full, keep out of range", full, 1000, 300, impl.JnRange, 200},
		{"full, gone out of range", full, 300, -1, impl.JnRange, 200},
		{"full, one gone, one out of range", full, 0, 1000, impl.JnRange, 200},
		{"full, both gone and the same", full, 5, 5, impl.JnRange, 200},
		{"full, keep gone", full, 0, 300, impl.JnGone, 200},
		{"full, gone gone", full, 300, 0, impl.JnGone, 200},
		{"full", full, 300, 301, impl.JnFull, 200},
		{"full, joined to what stands", full, 200, 301, impl.JnFull, 200},
		{"the last that fits", chainOf(199), 300, 301, 0, 200},
		{"what stands may be gone", chainOf(199), 300, 199, 0, 200},
		{"into itself again", chainOf(3), 0, 3, impl.JnGone, 3},
		{"first of all", nil, 999, 0, 0, 1},
	}
	for _, c := range cases {
		got, code := impl.JoinDo(c.joins, c.keep, c.gone)
		if code != c.code || len(got) != c.length {
			t.Errorf("%s: code %d, %d joins; want %d, %d", c.what, code, len(got), c.code, c.length)
		}
	}
}

func TestJoinUndo(t *testing.T) {
	for _, list := range append(someBooks(), noBooks()...) {
		ids := slices.Clone(idEdges)
		for _, join := range list.joins {
			ids = append(ids, join.Gone, join.Keep)
		}
		for _, gone := range ids {
			want, code := wantedJoinUndo(list.joins, gone)
			got, e := impl.JoinUndo(list.joins, gone)
			if e != code || !slices.Equal(got, want) {
				t.Fatalf("%s: JoinUndo(%v, %d) = %v, %d, want %v, %d", list.name, list.joins, gone, got, e, want, code)
			}
		}
	}
	middle, code := impl.JoinUndo(chainOf(200), 100)
	if code != 0 || len(middle) != 199 || impl.PersonOf(middle, 0) != 100 || impl.PersonOf(middle, 100) != 100 || impl.PersonOf(middle, 101) != 200 {
		t.Error("a chain undone in the middle", code, middle)
	}
}

func TestTogether(t *testing.T) {
	chain := []impl.Join{{Keep: 1, Gone: 2}, {Keep: 3, Gone: 1}, {Keep: 0, Gone: 3}, {Keep: 8, Gone: 7}}
	for id, want := range map[int64][]int64{
		0: {0, 1, 2, 3}, 1: {0, 1, 2, 3}, 2: {0, 1, 2, 3}, 3: {0, 1, 2, 3}, 4: {4}, 7: {7, 8}, 8: {7, 8}, 999: {999}, -1: nil, 1000: nil,
	} {
		if got := impl.Together(chain, id); !slices.Equal(got, want) {
			t.Errorf("Together(%v, %d) = %v, want %v", chain, id, got, want)
		}
	}
	for _, list := range append(someBooks(), noBooks()...) {
		for _, id := range idEdges {
			if got, want := impl.Together(list.joins, id), wantedTogether(list.joins, id); !slices.Equal(got, want) {
				t.Fatalf("%s: Together(%v, %d) = %v, want %v", list.name, list.joins, id, got, want)
			}
		}
	}
}

func TestTogetherIsAlikeForAllWhomItNames(t *testing.T) {
	for _, book := range someBooks() {
		named := 0
		for id := int64(0); id < 1000; id++ {
			all := impl.Together(book.joins, id)
			if !slices.Contains(all, id) || !slices.Contains(all, impl.PersonOf(book.joins, id)) || !slices.IsSorted(all) {
				t.Fatalf("%s: Together of %d is %v", book.name, id, all)
			}
			// A list that begins with another was held against that one's already.
			if all[0] != id {
				continue
			}
			named += len(all)
			for _, other := range all {
				if got := impl.Together(book.joins, other); !slices.Equal(got, all) {
					t.Fatalf("%s: Together of %d is %v, of %d %v", book.name, id, all, other, got)
				}
			}
		}
		if named != 1000 {
			t.Errorf("%s: all lists together name %d of 1000", book.name, named)
		}
	}
}

func TestABookStaysABook(t *testing.T) {
	coins := rand.New(rand.NewSource(8))
	for round := range 60 {
		persons := []int64{6, 40, 1002}[round%3]
		var joins []impl.Join
		for range 400 {
			keep, gone := coins.Int63n(persons)-1, coins.Int63n(persons)-1
			var next []impl.Join
			var code int64
			if coins.Intn(4) == 0 {
				next, code = impl.JoinUndo(joins, gone)
			} else {
				next, code = impl.JoinDo(joins, keep, gone)
			}
			if !impl.JoinsOk(next) || !isBook(next) {
				t.Fatalf("%v became %v (%d, %d), no book", joins, next, keep, gone)
			}
			if code != 0 && !slices.Equal(joins, next) {
				t.Fatalf("refused with %d, but %v became %v", code, joins, next)
			}
			if code == 0 && slices.Equal(joins, next) {
				t.Fatalf("done, but %v stayed", joins)
			}
			joins = next
		}
	}
}

func TestJoiningAndUndoingIsTheBook(t *testing.T) {
	coins := rand.New(rand.NewSource(9))
	done := 0
	for _, book := range someBooks() {
		for range 30 {
			keep, gone := coins.Int63n(1000), coins.Int63n(1000)
			if coins.Intn(2) == 0 {
				keep, gone = coins.Int63n(8), coins.Int63n(8)
			}
			joined, code := impl.JoinDo(book.joins, keep, gone)
			if code != 0 {
				continue
			}
			done++
			if impl.PersonOf(joined, gone) != keep {
				t.Errorf("%s: %d does not stand for %d in %v", book.name, keep, gone, joined)
			}
			back, code := impl.JoinUndo(joined, gone)
			if code != 0 || !slices.Equal(back, book.joins) {
				t.Errorf("%s: %v joined (%d, %d) and undone is %v, %d", book.name, book.joins, keep, gone, back, code)
			}
		}
	}
	if done == 0 {
		t.Error("nothing was joined")
	}
}

func TestJoinsAreNewMemoryAndArgumentsStay(t *testing.T) {
	mark := impl.Join{Keep: -7, Gone: -7}
	for _, list := range append(someBooks(), noBooks()...) {
		room := append(slices.Clone(list.joins), mark, mark, mark)
		given := room[:len(list.joins)]
		calls := map[string]func() []impl.Join{
			"join":   func() []impl.Join { a, _ := impl.JoinDo(given, 998, 997); return a },
			"range":  func() []impl.Join { a, _ := impl.JoinDo(given, -1, 997); return a },
			"undo":   func() []impl.Join { a, _ := impl.JoinUndo(given, 2); return a },
			"none":   func() []impl.Join { a, _ := impl.JoinUndo(given, -1); return a },
			"ok":     func() []impl.Join { impl.JoinsOk(given); return nil },
			"person": func() []impl.Join { impl.PersonOf(given, 2); return nil },
			"all":    func() []impl.Join { impl.Together(given, 2); return nil },
		}
		for what, call := range calls {
			answer := call()
			answer = answer[:cap(answer)]
			for i := range answer {
				answer[i] = impl.Join{Keep: -9, Gone: -9}
			}
			if !slices.Equal(given, list.joins) || !slices.Equal(room[len(given):], []impl.Join{mark, mark, mark}) {
				t.Fatalf("%s: %s wrote into its argument or what it answered shares it", list.name, what)
			}
		}
	}
}

func TestTogetherIsNewMemoryEachTime(t *testing.T) {
	joins := []impl.Join{{Keep: 1, Gone: 2}, {Keep: 3, Gone: 1}}
	first := impl.Together(joins, 1)
	first[0] = -1
	if second := impl.Together(joins, 1); !slices.Equal(second, []int64{1, 2, 3}) {
		t.Error(second)
	}
}
