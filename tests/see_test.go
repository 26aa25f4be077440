package tests

import (
	"math"
	"math/rand"
	"slices"
	"testing"

	"loop.example/g00060/impl"
)

func lookOf(who, role, person, sort, time int64) impl.Look {
	return impl.Look{Who: who, Role: role, Person: person, Sort: sort, Time: time}
}

// aLook is one that aHouseRule lets see.
func aLook() impl.Look { return lookOf(3, 1, 4, 2, 15) }

func lookAs(change func(l *impl.Look)) impl.Look {
	l := aLook()
	change(&l)
	return l
}

func hasGrant(r impl.Rules, l impl.Look) bool {
	for _, g := range r.Grants {
		if g.Role == l.Role && g.Sort == l.Sort {
			return true
		}
	}
	return false
}

func hasCare(r impl.Rules, l impl.Look) bool {
	for _, c := range r.Cares {
		if c.Who == l.Who && c.Person == l.Person && within(l.Time, c.From, c.To) {
			return true
		}
	}
	return false
}

func isRefused(r impl.Rules, l impl.Look) bool {
	for _, f := range r.Refusals {
		if f.Person == l.Person && f.Role == l.Role {
			return true
		}
	}
	return false
}

func isLook(l impl.Look) bool {
	return within(l.Who, 0, 999) && within(l.Role, 0, 19) && within(l.Person, 0, 999) && within(l.Sort, 0, 19) && within(l.Time, 0, 10000000)
}

// wantedSeeCodes is all codes that apply; the least of them is told.
func wantedSeeCodes(r impl.Rules, l impl.Look) []int64 {
	var codes []int64
	for at, applies := range []bool{!areHouseRules(r) || !isLook(l), !hasGrant(r, l), !hasCare(r, l), isRefused(r, l)} {
		if applies {
			codes = append(codes, int64(at)+1)
		}
	}
	return codes
}

func wantedSee(r impl.Rules, l impl.Look) int64 {
	if codes := wantedSeeCodes(r, l); len(codes) > 0 {
		return codes[0]
	}
	return 0
}

func maySee(r impl.Rules, l impl.Look) int64 {
	return impl.MaySee(r, l.Who, l.Role, l.Person, l.Sort, l.Time)
}

func checkSee(t *testing.T, what string, r impl.Rules, l impl.Look, want int64) {
	t.Helper()
	if got := maySee(r, l); got != want {
		t.Errorf("%s: MaySee(%+v, %+v) = %d, want %d", what, r, l, got, want)
	}
	if told := wantedSee(r, l); told != want {
		t.Errorf("%s: the test itself tells %d, want %d", what, told, want)
	}
}

func TestMaySee(t *testing.T) {
	r := aHouseRule()
	checkSee(t, "all that it takes", r, aLook(), 0)
	checkSee(t, "no rules at all", impl.Rules{}, aLook(), 2)
	checkSee(t, "the zero look of no rules", impl.Rules{}, impl.Look{}, 2)
	checkSee(t, "the zero look of noughts", impl.Rules{Grants: make([]impl.Grant, 1), Cares: make([]impl.Care, 1)}, impl.Look{}, 0)
	checkSee(t, "the zero look, refused", impl.Rules{Grants: make([]impl.Grant, 1), Cares: make([]impl.Care, 1), Refusals: make([]impl.Refusal, 1)}, impl.Look{}, 4)
	checkSee(t, "no grants", rulesAs(func(r *impl.Rules) { r.Grants = nil }), aLook(), 2)
	checkSee(t, "no cares", rulesAs(func(r *impl.Rules) { r.Cares = nil }), aLook(), 3)
	checkSee(t, "no refusals", rulesAs(func(r *impl.Rules) { r.Refusals = nil }), aLook(), 0)
	checkSee(t, "refused", rulesAs(func(r *impl.Rules) { r.Refusals[1] = refusalOf(4, 1) }), aLook(), 4)
}

// Each code in a look to which it alone applies, and none.
func TestEachCodeOfALookAlone(t *testing.T) {
	wrongGrant := rulesAs(func(r *impl.Rules) { r.Grants[0].Role = 20 })
	wrongCare := rulesAs(func(r *impl.Rules) { r.Cares[0].From = 10 })
	wrongRefusal := rulesAs(func(r *impl.Rules) { r.Refusals[1].Person = -1 })
	for _, c := range []struct {
		what string
		r    impl.Rules
		l    impl.Look
		code int64
	}{
		{"none", aHouseRule(), aLook(), 0},
		{"a wrong Grant", wrongGrant, aLook(), 1}, {"a wrong Care", wrongCare, aLook(), 1}, {"a wrong Refusal", wrongRefusal, aLook(), 1},
		{"too many grants", rulesAs(func(r *impl.Rules) { r.Grants = slices.Repeat(r.Grants, 101) }), aLook(), 1},
		{"too many cares", rulesAs(func(r *impl.Rules) { r.Cares = slices.Repeat(r.Cares, 101) }), aLook(), 1},
		{"too many refusals", rulesAs(func(r *impl.Rules) { r.Refusals = slices.Repeat(r.Refusals, 101) }), aLook(), 1},
		{"a role beyond, with a Grant of it", rulesAs(func(r *impl.Rules) { r.Grants[1].Role = 20 }), lookAs(func(l *impl.Look) { l.Role = 20 }), 1},
		{"a sort beyond, with a Grant of it", rulesAs(func(r *impl.Rules) { r.Grants[1].Sort = -1 }), lookAs(func(l *impl.Look) { l.Sort = -1 }), 1},
		{"somebody beyond, with a Care of them", rulesAs(func(r *impl.Rules) { r.Cares[1].Who = 1000 }), lookAs(func(l *impl.Look) { l.Who = 1000 }), 1},
		{"a person beyond, with a Care of them", rulesAs(func(r *impl.Rules) { r.Cares[1].Person = -1 }), lookAs(func(l *impl.Look) { l.Person = -1 }), 1},
		{"a time beyond, with a Care then", rulesAs(func(r *impl.Rules) { r.Cares[1].To = 10000001 }), lookAs(func(l *impl.Look) { l.Time = 10000001 }), 1},
		{"no Grant", aHouseRule(), lookAs(func(l *impl.Look) { l.Sort = 3 }), 2},
		{"no Care", aHouseRule(), lookAs(func(l *impl.Look) { l.Time = 21 }), 3},
		{"a Refusal", rulesAs(func(r *impl.Rules) { r.Refusals = append(r.Refusals, refusalOf(4, 1)) }), aLook(), 4},
	} {
		checkSee(t, c.what, c.r, c.l, c.code)
		if codes := wantedSeeCodes(c.r, c.l); c.code != 0 && !slices.Equal(codes, []int64{c.code}) {
			t.Errorf("%s: %v apply", c.what, codes)
		}
	}
}

// All ways in which the rules and the look may lack something at once.
func TestWhichCodeOfALookComesFirst(t *testing.T) {
	for chosen := range 16 {
		r := aHouseRule()
		var want []int64
		if chosen&1 != 0 {
			r.Cares[0].Who, want = 1000, append(want, 1)
		}
		if chosen&2 != 0 {
			r.Grants[1].Sort, want = 9, append(want, 2)
		}
		if chosen&4 != 0 {
			r.Cares[1].To, want = 14, append(want, 3)
		}
		if chosen&8 != 0 {
			r.Refusals[0].Person, want = 4, append(want, 4)
		}
		if codes := wantedSeeCodes(r, aLook()); !slices.Equal(codes, want) {
			t.Errorf("%v apply, want %v", codes, want)
		}
		checkSee(t, "some codes", r, aLook(), append(want, 0)[0])
	}
	// A number out of range lacks a Grant and a Care as well, and may be refused.
	for _, l := range []impl.Look{lookOf(-1, 1, 4, 2, 15), lookOf(3, 20, 4, 2, 15), lookOf(3, 1, 1000, 2, 15), lookOf(3, 1, 4, 20, 15), lookOf(3, 1, 4, 2, -1), lookOf(-1, -1, -1, -1, -1)} {
		checkSee(t, "out of range", aHouseRule(), l, 1)
		checkSee(t, "out of range, no rules", impl.Rules{}, l, 1)
		checkSee(t, "out of range, wrong rules", rulesAs(func(r *impl.Rules) { r.Refusals[0].Person = 1000 }), l, 1)
		checkSee(t, "out of range, refused", rulesAs(func(r *impl.Rules) { r.Refusals = append(r.Refusals, refusalOf(4, 1)) }), l, 1)
	}
}

func TestTheMinutesOfACare(t *testing.T) {
	for _, c := range []struct{ from, to, time, code int64 }{
		{15, 15, 15, 0}, {15, 15, 14, 3}, {15, 15, 16, 3},
		{15, 30, 15, 0}, {15, 30, 14, 3}, {15, 30, 16, 0}, {0, 15, 15, 0}, {0, 15, 16, 3}, {0, 15, 14, 0}, {0, 15, 0, 0},
		{16, 30, 15, 3}, {0, 14, 15, 3}, {14, 16, 15, 0},
		{0, 0, 0, 0}, {0, 0, 1, 3}, {1, 1, 0, 3}, {10000000, 10000000, 10000000, 0}, {10000000, 10000000, 9999999, 3}, {9999999, 9999999, 10000000, 3},
		{0, 10000000, 0, 0}, {0, 10000000, 5000000, 0}, {0, 10000000, 10000000, 0},
	} {
		r := rulesAs(func(r *impl.Rules) { r.Cares[1] = careOf(3, 4, c.from, c.to) })
		checkSee(t, "the minutes", r, lookAs(func(l *impl.Look) { l.Time = c.time }), c.code)
	}
	// Of some cares one is enough, whatever its place; two of them do not fill what lies between.
	cares := []impl.Care{careOf(3, 4, 40, 50), careOf(3, 4, 10, 20), careOf(3, 4, 52, 60)}
	for time := int64(0); time <= 70; time++ {
		code := int64(3)
		if within(time, 10, 20) || within(time, 40, 50) || within(time, 52, 60) {
			code = 0
		}
		checkSee(t, "three cares", rulesAs(func(r *impl.Rules) { r.Cares = cares }), lookAs(func(l *impl.Look) { l.Time = time }), code)
	}
}

func TestRulesOfOthers(t *testing.T) {
	care := func(c impl.Care) impl.Rules { return rulesAs(func(r *impl.Rules) { r.Cares[1] = c }) }
	checkSee(t, "a Care of somebody else", care(careOf(2, 4, 10, 20)), aLook(), 3)
	checkSee(t, "a Care of another person", care(careOf(3, 5, 10, 20)), aLook(), 3)
	checkSee(t, "a Care the other way round", care(careOf(4, 3, 10, 20)), aLook(), 3)
	checkSee(t, "two Cares that would make one", rulesAs(func(r *impl.Rules) { r.Cares = []impl.Care{careOf(3, 5, 10, 20), careOf(2, 4, 10, 20)} }), aLook(), 3)
	grant := func(g ...impl.Grant) impl.Rules { return rulesAs(func(r *impl.Rules) { r.Grants = g }) }
	checkSee(t, "a Grant of another Role", grant(grantOf(0, 2)), aLook(), 2)
	checkSee(t, "a Grant of another Sort", grant(grantOf(1, 1)), aLook(), 2)
	checkSee(t, "a Grant the other way round", grant(grantOf(2, 1)), aLook(), 2)
	checkSee(t, "two Grants that would make one", grant(grantOf(1, 1), grantOf(2, 2)), aLook(), 2)
	checkSee(t, "the Grant behind others", grant(grantOf(1, 1), grantOf(2, 2), grantOf(1, 2)), aLook(), 0)
	checkSee(t, "the Grant ahead of others", grant(grantOf(1, 2), grantOf(1, 1), grantOf(2, 2)), aLook(), 0)
	checkSee(t, "the Grant twice", grant(grantOf(1, 2), grantOf(1, 2)), aLook(), 0)
	refusal := func(f ...impl.Refusal) impl.Rules { return rulesAs(func(r *impl.Rules) { r.Refusals = f }) }
	checkSee(t, "a Refusal of another person", refusal(refusalOf(3, 1)), aLook(), 0)
	checkSee(t, "a Refusal of another Role", refusal(refusalOf(4, 2)), aLook(), 0)
	checkSee(t, "a Refusal the other way round", refusal(refusalOf(1, 4)), aLook(), 0)
	checkSee(t, "two Refusals that would make one", refusal(refusalOf(4, 2), refusalOf(3, 1)), aLook(), 0)
	checkSee(t, "the Refusal behind others", refusal(refusalOf(4, 2), refusalOf(3, 1), refusalOf(4, 1)), aLook(), 4)
	checkSee(t, "the Refusal twice", refusal(refusalOf(4, 1), refusalOf(4, 1)), aLook(), 4)
}

// Each number of a look at its ends and beyond, with rules that let it see where it is in range.
func TestNumbersOfALook(t *testing.T) {
	wild := []int64{math.MinInt64, math.MinInt64 + 1, -1000, -1, 0, 1, 19, 20, 999, 1000, 1001, 9999999, 10000000, 10000001, math.MaxInt64}
	for _, n := range wild {
		for _, c := range []struct {
			what string
			most int64
			set  func(l *impl.Look, r *impl.Rules)
		}{
			{"who", 999, func(l *impl.Look, r *impl.Rules) { l.Who, r.Cares[1].Who = n, n }},
			{"role", 19, func(l *impl.Look, r *impl.Rules) { l.Role, r.Grants[1].Role = n, n }},
			{"person", 999, func(l *impl.Look, r *impl.Rules) { l.Person, r.Cares[1].Person = n, n }},
			{"sort", 19, func(l *impl.Look, r *impl.Rules) { l.Sort, r.Grants[1].Sort = n, n }},
			{"time", 10000000, func(l *impl.Look, r *impl.Rules) { l.Time, r.Cares[1].From, r.Cares[1].To = n, n, n }},
		} {
			l, r, old := aLook(), aHouseRule(), aHouseRule()
			r.Refusals, old.Refusals = nil, nil
			c.set(&l, &r)
			code := int64(1)
			if within(n, 0, c.most) {
				code = 0
			}
			checkSee(t, c.what, r, l, code)
			if code == 1 {
				checkSee(t, c.what+", right rules", old, l, 1)
			}
		}
	}
}

func TestMaySeeByFullRules(t *testing.T) {
	full := impl.Rules{Grants: slices.Repeat([]impl.Grant{grantOf(7, 8)}, 200), Cares: slices.Repeat([]impl.Care{careOf(5, 6, 0, 9)}, 200), Refusals: slices.Repeat([]impl.Refusal{refusalOf(5, 1)}, 200)}
	checkSee(t, "200 of each, none of it", full, aLook(), 2)
	full.Grants[199] = grantOf(1, 2)
	checkSee(t, "the last Grant", full, aLook(), 3)
	full.Cares[199] = careOf(3, 4, 10, 20)
	checkSee(t, "the last Care", full, aLook(), 0)
	full.Refusals[199] = refusalOf(4, 1)
	checkSee(t, "the last Refusal", full, aLook(), 4)
	full.Refusals = append(full.Refusals[:199], refusalOf(5, 1), refusalOf(5, 1))
	checkSee(t, "one Refusal too many", full, aLook(), 1)
}

// randomLook is often one that randomHouseRules let see.
func randomLook(coins *rand.Rand) impl.Look {
	l := lookOf(coins.Int63n(3), coins.Int63n(3), coins.Int63n(3), coins.Int63n(3), coins.Int63n(36))
	if coins.Intn(20) == 0 {
		wild := []int64{math.MinInt64, -1, 19, 20, 999, 1000, 10000000, 10000001, math.MaxInt64}
		*[]*int64{&l.Who, &l.Role, &l.Person, &l.Sort, &l.Time}[coins.Intn(5)] = wild[coins.Intn(len(wild))]
	}
	l.Glass = coins.Intn(3) == 0
	return l
}

func TestMaySeeOfManyRules(t *testing.T) {
	coins := rand.New(rand.NewSource(146))
	told := [5]int{}
	for range 40000 {
		r, l := randomHouseRules(coins, 10), randomLook(coins)
		if coins.Intn(10) == 0 {
			spoilRules(coins, &r)
		}
		got := maySee(r, l)
		if got != wantedSee(r, l) {
			t.Fatalf("MaySee(%+v, %+v) = %d", r, l, got)
		}
		told[got]++
	}
	for code, count := range told {
		if count < 1000 {
			t.Error("too few of a code:", code, count)
		}
	}
}

// Promise 17: MaySee lets nobody who has no grant, no care, or is refused: who may see has all three, and may not as soon as one of them is taken away.
func TestMaySeeLetsNobodyWhoLacksSomething(t *testing.T) {
	coins := rand.New(rand.NewSource(147))
	let := 0
	for range 40000 {
		r, l := randomHouseRules(coins, 10), randomLook(coins)
		if maySee(r, l) != 0 {
			continue
		}
		let++
		if !hasGrant(r, l) || !hasCare(r, l) || isRefused(r, l) || !isLook(l) {
			t.Fatalf("MaySee(%+v, %+v) = 0", r, l)
		}
		less := anewRules(r)
		less.Grants = slices.DeleteFunc(less.Grants, func(g impl.Grant) bool { return g == grantOf(l.Role, l.Sort) })
		if code := maySee(less, l); code != 2 {
			t.Fatalf("no grant is left: MaySee(%+v, %+v) = %d", less, l, code)
		}
		less = anewRules(r)
		less.Cares = slices.DeleteFunc(less.Cares, func(c impl.Care) bool {
			return c.Who == l.Who && c.Person == l.Person && within(l.Time, c.From, c.To)
		})
		if code := maySee(less, l); code != 3 {
			t.Fatalf("no care is left: MaySee(%+v, %+v) = %d", less, l, code)
		}
		less = anewRules(r)
		less.Refusals = slices.Insert(less.Refusals, coins.Intn(len(less.Refusals)+1), refusalOf(l.Person, l.Role))
		if code := maySee(less, l); code != 4 {
			t.Fatalf("refused: MaySee(%+v, %+v) = %d", less, l, code)
		}
	}
	if let < 2000 {
		t.Error(let)
	}
}

// What may be seen hangs on no order of the rules.
func TestMaySeeInAnotherOrder(t *testing.T) {
	coins := rand.New(rand.NewSource(148))
	for range 3000 {
		r, l := randomHouseRules(coins, 10), randomLook(coins)
		code := maySee(r, l)
		coins.Shuffle(len(r.Grants), func(a, b int) { r.Grants[a], r.Grants[b] = r.Grants[b], r.Grants[a] })
		coins.Shuffle(len(r.Cares), func(a, b int) { r.Cares[a], r.Cares[b] = r.Cares[b], r.Cares[a] })
		slices.Reverse(r.Refusals)
		if again := maySee(r, l); again != code {
			t.Fatal(r, l, code, again)
		}
	}
}
