package tests

import (
	"math"
	"math/rand"
	"slices"
	"testing"

	"loop.example/g00060/impl"
)

func grantOf(role, sort int64) impl.Grant { return impl.Grant{Role: role, Sort: sort} }

func careOf(who, person, from, to int64) impl.Care {
	return impl.Care{Who: who, Person: person, From: from, To: to}
}

func refusalOf(person, role int64) impl.Refusal { return impl.Refusal{Person: person, Role: role} }

// aHouseRule has two of each, such that somebody (3, of the role 1) may see what is of the sort 2 of person 4 from 10 to 20.
func aHouseRule() impl.Rules {
	return impl.Rules{
		Grants:   []impl.Grant{grantOf(7, 8), grantOf(1, 2)},
		Cares:    []impl.Care{careOf(5, 6, 0, 9), careOf(3, 4, 10, 20)},
		Refusals: []impl.Refusal{refusalOf(5, 1), refusalOf(4, 7)},
	}
}

func anewRules(r impl.Rules) impl.Rules {
	return impl.Rules{Grants: slices.Clone(r.Grants), Cares: slices.Clone(r.Cares), Refusals: slices.Clone(r.Refusals)}
}

func rulesAs(change func(r *impl.Rules)) impl.Rules {
	r := aHouseRule()
	change(&r)
	return r
}

func sameRules(a, b impl.Rules) bool {
	return slices.Equal(a.Grants, b.Grants) && slices.Equal(a.Cares, b.Cares) && slices.Equal(a.Refusals, b.Refusals)
}

func areHouseRules(r impl.Rules) bool {
	ok := len(r.Grants) <= 200 && len(r.Cares) <= 200 && len(r.Refusals) <= 200
	for _, g := range r.Grants {
		ok = ok && within(g.Role, 0, 19) && within(g.Sort, 0, 19)
	}
	for _, c := range r.Cares {
		ok = ok && within(c.Who, 0, 999) && within(c.Person, 0, 999) && within(c.From, 0, 10000000) && within(c.To, c.From, 10000000)
	}
	for _, f := range r.Refusals {
		ok = ok && within(f.Person, 0, 999) && within(f.Role, 0, 19)
	}
	return ok
}

func checkRulesOk(t *testing.T, what string, r impl.Rules, want bool) {
	t.Helper()
	if got := impl.RulesOk(r); got != want {
		t.Errorf("%s: RulesOk(%+v) = %v", what, r, got)
	}
	if told := areHouseRules(r); told != want {
		t.Errorf("%s: the test itself tells %v of %+v", what, told, r)
	}
}

func TestAccessConstants(t *testing.T) {
	got := []int64{impl.SeBad, impl.SeGrant, impl.SeCare, impl.SeRefused, impl.MaxRules, impl.MaxSteps, impl.MaxValue, impl.MaxPersons, impl.MaxTime}
	if !slices.Equal(got, []int64{1, 2, 3, 4, 200, 1000, 100000, 1000, 10000000}) {
		t.Fatal(got)
	}
}

func TestRulesOfFew(t *testing.T) {
	r := aHouseRule()
	checkRulesOk(t, "none", impl.Rules{}, true)
	checkRulesOk(t, "empty lists", impl.Rules{Grants: []impl.Grant{}, Cares: []impl.Care{}, Refusals: []impl.Refusal{}}, true)
	checkRulesOk(t, "two of each", r, true)
	checkRulesOk(t, "grants alone", impl.Rules{Grants: r.Grants}, true)
	checkRulesOk(t, "cares alone", impl.Rules{Cares: r.Cares}, true)
	checkRulesOk(t, "refusals alone", impl.Rules{Refusals: r.Refusals}, true)
	checkRulesOk(t, "noughts", impl.Rules{Grants: make([]impl.Grant, 1), Cares: make([]impl.Care, 1), Refusals: make([]impl.Refusal, 1)}, true)
	checkRulesOk(t, "a care of oneself", impl.Rules{Cares: []impl.Care{careOf(3, 3, 0, 1)}}, true)
}

func TestRulesTwiceTheSame(t *testing.T) {
	checkRulesOk(t, "a Grant", impl.Rules{Grants: []impl.Grant{grantOf(1, 2), grantOf(1, 2)}}, true)
	checkRulesOk(t, "a Care", impl.Rules{Cares: []impl.Care{careOf(3, 4, 10, 20), careOf(3, 4, 10, 20)}}, true)
	checkRulesOk(t, "a Care that goes on in another one", impl.Rules{Cares: []impl.Care{careOf(3, 4, 10, 20), careOf(3, 4, 15, 30)}}, true)
	checkRulesOk(t, "a Refusal", impl.Rules{Refusals: []impl.Refusal{refusalOf(5, 1), refusalOf(5, 1)}}, true)
	r := aHouseRule()
	checkRulesOk(t, "each of them", impl.Rules{Grants: slices.Repeat(r.Grants, 2), Cares: slices.Repeat(r.Cares, 2), Refusals: slices.Repeat(r.Refusals, 2)}, true)
}

// Each list by itself at its limit and one beyond, the others being empty, short or full.
func TestRulesAtTheirLimits(t *testing.T) {
	grants := slices.Repeat([]impl.Grant{grantOf(1, 2)}, 201)
	cares := slices.Repeat([]impl.Care{careOf(3, 4, 10, 20)}, 201)
	refusals := slices.Repeat([]impl.Refusal{refusalOf(5, 1)}, 201)
	counts := []int{0, 1, 199, 200, 201}
	for _, g := range counts {
		for _, c := range counts {
			for _, f := range counts {
				checkRulesOk(t, "so many", impl.Rules{Grants: grants[:g], Cares: cares[:c], Refusals: refusals[:f]}, max(g, c, f) <= 200)
			}
		}
	}
}

// Each number of each rule, in the first, a middle and the last place.
func TestNumbersOfRules(t *testing.T) {
	roles := []int64{math.MinInt64, -20, -1, 0, 1, 18, 19, 20, 21, 200, math.MaxInt64}
	persons := []int64{math.MinInt64, -1000, -1, 0, 1, 998, 999, 1000, 1001, math.MaxInt64}
	for place := range 3 {
		check := func(what string, n, most int64, set func(r *impl.Rules)) {
			r := impl.Rules{Grants: slices.Repeat([]impl.Grant{grantOf(1, 2)}, 3), Cares: slices.Repeat([]impl.Care{careOf(3, 4, 10, 20)}, 3), Refusals: slices.Repeat([]impl.Refusal{refusalOf(5, 1)}, 3)}
			set(&r)
			checkRulesOk(t, what, r, within(n, 0, most))
		}
		for _, n := range roles {
			check("Role of a Grant", n, 19, func(r *impl.Rules) { r.Grants[place].Role = n })
			check("Sort of a Grant", n, 19, func(r *impl.Rules) { r.Grants[place].Sort = n })
			check("Role of a Refusal", n, 19, func(r *impl.Rules) { r.Refusals[place].Role = n })
		}
		for _, n := range persons {
			check("Who of a Care", n, 999, func(r *impl.Rules) { r.Cares[place].Who = n })
			check("Person of a Care", n, 999, func(r *impl.Rules) { r.Cares[place].Person = n })
			check("Person of a Refusal", n, 999, func(r *impl.Rules) { r.Refusals[place].Person = n })
		}
	}
}

func TestTimesOfCares(t *testing.T) {
	times := []int64{math.MinInt64, -1, 0, 1, 9, 10, 11, 9999999, 10000000, 10000001, math.MaxInt64}
	for _, from := range times {
		for _, to := range times {
			want := from >= 0 && from <= to && to <= 10000000
			checkRulesOk(t, "one care", impl.Rules{Cares: []impl.Care{careOf(3, 4, from, to)}}, want)
			checkRulesOk(t, "the last care", rulesAs(func(r *impl.Rules) { r.Cares = append(r.Cares, careOf(3, 4, from, to)) }), want)
		}
	}
}

// What is wrong in one list is not made good by the others.
func TestOneWrongRuleAmongMany(t *testing.T) {
	for place := range 200 {
		r := impl.Rules{Grants: slices.Repeat([]impl.Grant{grantOf(1, 2)}, 200), Cares: slices.Repeat([]impl.Care{careOf(3, 4, 10, 20)}, 200), Refusals: slices.Repeat([]impl.Refusal{refusalOf(5, 1)}, 200)}
		checkRulesOk(t, "all right", r, true)
		r.Grants[place].Sort = 20
		checkRulesOk(t, "a wrong Grant", r, false)
		r.Grants[place].Sort, r.Cares[place].To = 0, 9
		checkRulesOk(t, "a wrong Care", r, false)
		r.Cares[place].To, r.Refusals[place].Role = 10, -1
		checkRulesOk(t, "a wrong Refusal", r, false)
		r.Refusals[place].Role = 19
		checkRulesOk(t, "all right again", r, true)
	}
}

// randomHouseRules are right, of few roles, sorts, people and minutes, so that looks often meet them.
func randomHouseRules(coins *rand.Rand, most int) impl.Rules {
	r := impl.Rules{}
	for range coins.Intn(most + 1) {
		r.Grants = append(r.Grants, grantOf(coins.Int63n(3), coins.Int63n(3)))
	}
	for range coins.Intn(3*most + 1) {
		from := coins.Int63n(20)
		r.Cares = append(r.Cares, careOf(coins.Int63n(3), coins.Int63n(3), from, from+coins.Int63n(25)))
	}
	for range coins.Intn(most/2 + 1) {
		r.Refusals = append(r.Refusals, refusalOf(coins.Int63n(3), coins.Int63n(3)))
	}
	return r
}

// spoilRules puts a number at or beyond an end into one of them.
func spoilRules(coins *rand.Rand, r *impl.Rules) {
	wild := []int64{math.MinInt64, -1, 0, 19, 20, 999, 1000, 10000000, 10000001, math.MaxInt64}
	var numbers []*int64
	for at := range r.Grants {
		numbers = append(numbers, &r.Grants[at].Role, &r.Grants[at].Sort)
	}
	for at := range r.Cares {
		numbers = append(numbers, &r.Cares[at].Who, &r.Cares[at].Person, &r.Cares[at].From, &r.Cares[at].To)
	}
	for at := range r.Refusals {
		numbers = append(numbers, &r.Refusals[at].Person, &r.Refusals[at].Role)
	}
	if len(numbers) > 0 {
		*numbers[coins.Intn(len(numbers))] = wild[coins.Intn(len(wild))]
	}
}

func TestManyRules(t *testing.T) {
	coins := rand.New(rand.NewSource(145))
	seen := map[bool]int{}
	for range 20000 {
		r := randomHouseRules(coins, 6)
		if coins.Intn(2) == 0 {
			spoilRules(coins, &r)
		}
		want := areHouseRules(r)
		checkRulesOk(t, "random", r, want)
		seen[want]++
	}
	if seen[true] < 2000 || seen[false] < 2000 {
		t.Error(seen)
	}
}
