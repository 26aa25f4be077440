package tests

import (
	"math"
	"math/rand"
	"slices"
	"testing"

	"loop.example/g00060/impl"
)

func ruleOf(a, b, grade int64) impl.Rule { return impl.Rule{A: a, B: b, Grade: grade} }

// drugsIn has one drug for each list of classes.
func drugsIn(lists ...[]int64) []impl.Drug {
	var drugs []impl.Drug
	for at, classes := range lists {
		d := drugIn(classes...)
		d.Id = int64(at + 1)
		drugs = append(drugs, d)
	}
	return drugs
}

func isRule(r impl.Rule) bool {
	return within(r.A, 0, 63) && within(r.B, 0, 63) && within(r.Grade, 1, 3)
}

func isBetween(r impl.Rule, one impl.Drug, other impl.Drug) bool {
	for _, a := range one.Classes {
		for _, b := range other.Classes {
			if a == r.A && b == r.B || a == r.B && b == r.A {
				return true
			}
		}
	}
	return false
}

// wantedRule goes through the grades from the worst on, and takes the first rule of it.
func wantedRule(rules []impl.Rule, one impl.Drug, other impl.Drug) int64 {
	for grade := int64(3); grade >= 1; grade-- {
		for at, r := range rules {
			if r.Grade == grade && isBetween(r, one, other) {
				return int64(at)
			}
		}
	}
	return -1
}

func wantedWarnings(drugs []impl.Drug, rules []impl.Rule) []impl.Warning {
	wrongDrug := func(d impl.Drug) bool { return !isDrug(d) }
	wrongRule := func(r impl.Rule) bool { return !isRule(r) }
	if len(drugs) > 50 || len(rules) > 200 || slices.ContainsFunc(drugs, wrongDrug) || slices.ContainsFunc(rules, wrongRule) {
		return nil
	}
	var warnings []impl.Warning
	for a := range drugs {
		for b := range drugs {
			if rule := wantedRule(rules, drugs[a], drugs[b]); a < b && rule >= 0 {
				warnings = append(warnings, impl.Warning{A: int64(a), B: int64(b), Rule: rule})
			}
		}
	}
	return warnings
}

func checkWarnings(t *testing.T, drugs []impl.Drug, rules []impl.Rule) {
	t.Helper()
	if got, want := impl.Interactions(drugs, rules), wantedWarnings(drugs, rules); !slices.Equal(got, want) {
		t.Fatalf("Interactions(%+v, %v) = %v, want %v", drugs, rules, got, want)
	}
}

func checkNoWarnings(t *testing.T, what string, drugs []impl.Drug, rules []impl.Rule) {
	t.Helper()
	if got := impl.Interactions(drugs, rules); len(got) != 0 {
		t.Errorf("%s: %v", what, got)
	}
	checkWarnings(t, drugs, rules)
}

func TestInteractions(t *testing.T) {
	for _, r := range []struct {
		what     string
		drugs    []impl.Drug
		rules    []impl.Rule
		warnings []impl.Warning
	}{
		{"the rule's way round", drugsIn([]int64{2}, []int64{7}), []impl.Rule{ruleOf(2, 7, 1)}, []impl.Warning{{A: 0, B: 1, Rule: 0}}},
		{"the other way round", drugsIn([]int64{7}, []int64{2}), []impl.Rule{ruleOf(2, 7, 1)}, []impl.Warning{{A: 0, B: 1, Rule: 0}}},
		{"either way round", drugsIn([]int64{2, 7}, []int64{2, 7}), []impl.Rule{ruleOf(2, 7, 1)}, []impl.Warning{{A: 0, B: 1, Rule: 0}}},
		{"both rules, the same grade", drugsIn([]int64{2}, []int64{7}), []impl.Rule{ruleOf(2, 7, 2), ruleOf(7, 2, 2)}, []impl.Warning{{A: 0, B: 1, Rule: 0}}},
		{"a greater one behind", drugsIn([]int64{2, 5}, []int64{7}), []impl.Rule{ruleOf(7, 2, 1), ruleOf(5, 7, 2)}, []impl.Warning{{A: 0, B: 1, Rule: 1}}},
		{"a lesser one behind", drugsIn([]int64{2, 5}, []int64{7}), []impl.Rule{ruleOf(7, 2, 3), ruleOf(5, 7, 2)}, []impl.Warning{{A: 0, B: 1, Rule: 0}}},
		{"the greatest in the middle", drugsIn([]int64{2, 5}, []int64{7}), []impl.Rule{ruleOf(7, 2, 2), ruleOf(5, 7, 3), ruleOf(5, 7, 3), ruleOf(2, 7, 1)}, []impl.Warning{{A: 0, B: 1, Rule: 1}}},
		{"the greatest of another pair", drugsIn([]int64{2}, []int64{7}), []impl.Rule{ruleOf(2, 8, 3), ruleOf(2, 7, 1), ruleOf(2, 2, 3)}, []impl.Warning{{A: 0, B: 1, Rule: 1}}},
		{"two of one class", drugsIn([]int64{4}, []int64{4}), []impl.Rule{ruleOf(4, 4, 1)}, []impl.Warning{{A: 0, B: 1, Rule: 0}}},
		{"one of one class alone", drugsIn([]int64{4}, []int64{5}), []impl.Rule{ruleOf(4, 4, 1)}, nil},
		{"one drug with both classes", drugsIn([]int64{2, 7}), []impl.Rule{ruleOf(2, 7, 3)}, nil},
		{"one drug with both, another with none", drugsIn([]int64{2, 7}, []int64{9}), []impl.Rule{ruleOf(2, 7, 3)}, nil},
		{"one drug with both, another with one", drugsIn([]int64{2, 7}, []int64{7}), []impl.Rule{ruleOf(2, 7, 3)}, []impl.Warning{{A: 0, B: 1, Rule: 0}}},
		{"one drug with both, another with the other", drugsIn([]int64{2}, []int64{2, 7}), []impl.Rule{ruleOf(2, 7, 3)}, []impl.Warning{{A: 0, B: 1, Rule: 0}}},
		{"both of the class A", drugsIn([]int64{2}, []int64{2}), []impl.Rule{ruleOf(2, 7, 3)}, nil},
		{"both of the class B", drugsIn([]int64{7}, []int64{7}), []impl.Rule{ruleOf(2, 7, 3)}, nil},
		{"no classes", drugsIn(nil, []int64{7}, nil), []impl.Rule{ruleOf(0, 7, 3), ruleOf(0, 0, 3)}, nil},
		{"the first and the last class", drugsIn([]int64{0}, []int64{63}), []impl.Rule{ruleOf(63, 0, 3)}, []impl.Warning{{A: 0, B: 1, Rule: 0}}},
		{"classes far apart in bits", drugsIn([]int64{31}, []int64{32}), []impl.Rule{ruleOf(0, 1, 3), ruleOf(32, 31, 1)}, []impl.Warning{{A: 0, B: 1, Rule: 1}}},
		{"by A, then B", drugsIn([]int64{1}, []int64{1}, []int64{1}, []int64{1}), []impl.Rule{ruleOf(1, 1, 1)},
			[]impl.Warning{{A: 0, B: 1}, {A: 0, B: 2}, {A: 0, B: 3}, {A: 1, B: 2}, {A: 1, B: 3}, {A: 2, B: 3}}},
		{"some of the pairs", drugsIn([]int64{1}, []int64{2}, []int64{3}, []int64{1}), []impl.Rule{ruleOf(2, 3, 1), ruleOf(3, 1, 2)},
			[]impl.Warning{{A: 0, B: 2, Rule: 1}, {A: 1, B: 2, Rule: 0}, {A: 2, B: 3, Rule: 1}}},
		{"the same drug twice", []impl.Drug{aDrug(), aDrug()}, []impl.Rule{ruleOf(2, 5, 1)}, []impl.Warning{{A: 0, B: 1, Rule: 0}}},
	} {
		if got := impl.Interactions(r.drugs, r.rules); !slices.Equal(got, r.warnings) {
			t.Errorf("%s: %v, want %v", r.what, got, r.warnings)
		}
		checkWarnings(t, r.drugs, r.rules)
	}
}

func TestInteractionsOfFew(t *testing.T) {
	rules := []impl.Rule{ruleOf(2, 5, 1), ruleOf(2, 2, 3)}
	checkNoWarnings(t, "no drugs", nil, rules)
	checkNoWarnings(t, "no drugs, a list", []impl.Drug{}, rules)
	checkNoWarnings(t, "one drug", []impl.Drug{aDrug()}, rules)
	checkNoWarnings(t, "no rules", []impl.Drug{aDrug(), aDrug()}, nil)
	checkNoWarnings(t, "no rules, a list", []impl.Drug{aDrug(), aDrug()}, []impl.Rule{})
	checkNoWarnings(t, "nothing", nil, nil)
}

func TestInteractionsOfMany(t *testing.T) {
	drugs := slices.Repeat([]impl.Drug{aDrug()}, 51)
	rules := append(slices.Repeat([]impl.Rule{ruleOf(9, 9, 3)}, 199), ruleOf(2, 5, 1), ruleOf(2, 5, 1))
	for _, count := range []int{49, 50} {
		if got := impl.Interactions(drugs[:count], rules[:200]); len(got) != count*(count-1)/2 || got[0].Rule != 199 {
			t.Errorf("%d drugs: %d warnings", count, len(got))
		}
		checkWarnings(t, drugs[:count], rules[:200])
	}
	if got := impl.Interactions(drugs[:2], rules[199:]); len(got) != 1 {
		t.Error(got)
	}
	checkNoWarnings(t, "one drug too many", drugs, rules[:200])
	checkNoWarnings(t, "one rule too many", drugs[:50], rules)
	checkNoWarnings(t, "one rule too many for two drugs", drugs[:2], rules)
	checkNoWarnings(t, "one drug too many for one rule", drugs, rules[199:200])
	checkNoWarnings(t, "both", drugs, rules)
}

func TestRules(t *testing.T) {
	drugs := drugsIn([]int64{0, 63}, []int64{0, 63})
	for _, class := range []int64{math.MinInt64, -64, -1, 0, 63, 64, 65, 127, 128, math.MaxInt64} {
		right := class == 0 || class == 63
		for _, rule := range []impl.Rule{ruleOf(class, 63, 1), ruleOf(63, class, 1), ruleOf(class, class, 1)} {
			if got := impl.Interactions(drugs, []impl.Rule{rule}); (len(got) == 1) != right || len(got) > 1 {
				t.Errorf("%+v: %v", rule, got)
			}
			checkWarnings(t, drugs, []impl.Rule{rule})
			checkNoOther(t, drugs, rule, right)
		}
	}
	for _, grade := range []int64{math.MinInt64, -1, 0, 1, 2, 3, 4, 5, math.MaxInt64} {
		rule := ruleOf(0, 63, grade)
		if got := impl.Interactions(drugs, []impl.Rule{rule}); (len(got) == 1) != (grade >= 1 && grade <= 3) {
			t.Errorf("%+v: %v", rule, got)
		}
		checkNoOther(t, drugs, rule, grade >= 1 && grade <= 3)
	}
}

// checkNoOther asks that a rule which is not as told leaves the others nothing, ahead of them and behind.
func checkNoOther(t *testing.T, drugs []impl.Drug, rule impl.Rule, right bool) {
	t.Helper()
	other := ruleOf(0, 0, 3)
	for _, rules := range [][]impl.Rule{{rule, other}, {other, rule}, {other, rule, other}} {
		if got := impl.Interactions(drugs, rules); (len(got) == 1) != right {
			t.Errorf("%v: %v", rules, got)
		}
		checkWarnings(t, drugs, rules)
	}
	if got := impl.Interactions(nil, []impl.Rule{rule}); len(got) != 0 {
		t.Errorf("no drugs, %v: %v", rule, got)
	}
}

func randomRules(coins *rand.Rand, count int, classes int64) []impl.Rule {
	rules := make([]impl.Rule, count)
	for at := range rules {
		rules[at] = ruleOf(coins.Int63n(classes), coins.Int63n(classes), 1+coins.Int63n(3))
	}
	return rules
}

// randomDrugs has drugs of so many classes, so that rules of these often fit.
func randomDrugs(coins *rand.Rand, count int, classes int64) []impl.Drug {
	drugs := make([]impl.Drug, count)
	for at := range drugs {
		drugs[at] = randomDrug(coins)
		some := make([]int64, coins.Intn(4))
		for at := range some {
			some[at] = coins.Int63n(classes)
		}
		slices.Sort(some)
		drugs[at].Classes = slices.Compact(some)
	}
	return drugs
}

func TestInteractionsAsTold(t *testing.T) {
	coins := rand.New(rand.NewSource(88))
	for range 3000 {
		classes := []int64{2, 5, 12, 64}[coins.Intn(4)]
		drugs, rules := randomDrugs(coins, coins.Intn(8), classes), randomRules(coins, coins.Intn(12), classes)
		switch coins.Intn(8) {
		case 0:
			if len(rules) > 0 {
				rules[coins.Intn(len(rules))].Grade = coins.Int63n(6) - 1
			}
		case 1:
			if len(drugs) > 0 {
				drugs[coins.Intn(len(drugs))].Id = []int64{0, 1, 1000, 1001}[coins.Intn(4)]
			}
		}
		checkWarnings(t, drugs, rules)
	}
	for range 20 {
		checkWarnings(t, randomDrugs(coins, 50, 64), randomRules(coins, 200, 64))
	}
}

// told is what a warning says, by the drugs and not by where they stand.
type told struct {
	one, other, rule int64
}

// warningsByDrug has who stood at which place by Id.
func warningsByDrug(drugs []impl.Drug, rules []impl.Rule) map[told]int {
	counts := map[told]int{}
	for _, w := range impl.Interactions(drugs, rules) {
		a, b := drugs[w.A].Id, drugs[w.B].Id
		counts[told{min(a, b), max(a, b), w.Rule}]++
	}
	return counts
}

// Promise 11: interactions are told alike in whatever order the drugs stand.
func TestInteractionsHangOnNoOrder(t *testing.T) {
	coins := rand.New(rand.NewSource(89))
	found := 0
	for range 1500 {
		classes := []int64{3, 6, 64}[coins.Intn(3)]
		drugs, rules := randomDrugs(coins, coins.Intn(9), classes), randomRules(coins, coins.Intn(12), classes)
		for at := range drugs {
			drugs[at].Id = int64(at + 1)
		}
		want := warningsByDrug(drugs, rules)
		found += len(want)
		for range 4 {
			coins.Shuffle(len(drugs), func(a, b int) { drugs[a], drugs[b] = drugs[b], drugs[a] })
			got := warningsByDrug(drugs, rules)
			if len(got) != len(want) {
				t.Fatalf("%v, then %v", want, got)
			}
			for w, count := range want {
				if count != 1 || got[w] != 1 {
					t.Fatalf("%v: %d times, then %d", w, count, got[w])
				}
			}
		}
	}
	if found == 0 {
		t.Fatal("no warnings")
	}
}

// Which of its classes a rule names ahead says nothing either.
func TestInteractionsOfRulesTurnedRound(t *testing.T) {
	coins := rand.New(rand.NewSource(90))
	for range 500 {
		drugs, rules := randomDrugs(coins, 6, 6), randomRules(coins, 8, 6)
		want := impl.Interactions(drugs, rules)
		for at := range rules {
			rules[at].A, rules[at].B = rules[at].B, rules[at].A
		}
		if got := impl.Interactions(drugs, rules); !slices.Equal(got, want) {
			t.Fatalf("%v, then %v", want, got)
		}
	}
}

func TestAllergic(t *testing.T) {
	for _, r := range []struct {
		of      []int64
		classes []int64
		is      bool
	}{
		{[]int64{2, 5}, nil, false},
		{[]int64{2, 5}, []int64{}, false},
		{[]int64{2, 5}, []int64{2}, true},
		{[]int64{2, 5}, []int64{5}, true},
		{[]int64{2, 5}, []int64{7}, false},
		{[]int64{2, 5}, []int64{7, 5}, true},
		{[]int64{2, 5}, []int64{5, 5, 2, 2}, true},
		{[]int64{2, 5}, []int64{7, 7, 6, 0}, false},
		{nil, peopleTo(0, 64), false},
		{[]int64{0}, []int64{0}, true},
		{[]int64{63}, []int64{63}, true},
		{[]int64{0}, []int64{63}, false},
		{[]int64{0}, []int64{64}, false},
		{[]int64{0}, []int64{-64, 128, 64, 256, -128}, false},
		{[]int64{63}, []int64{-1, 127, math.MaxInt64}, false},
		{[]int64{0, 63}, []int64{-1, 64, math.MinInt64, math.MaxInt64, 1 << 32, 1<<32 + 63}, false},
		{[]int64{0, 63}, []int64{-1, 64, math.MinInt64, 63}, true},
		{[]int64{32}, []int64{0}, false},
		{[]int64{32}, []int64{32}, true},
		{[]int64{5}, append(slices.Repeat([]int64{6}, 5000), 5), true},
		{[]int64{5}, slices.Repeat([]int64{6, -1, 64}, 5000), false},
	} {
		if got := impl.Allergic(drugIn(r.of...), r.classes); got != r.is {
			t.Errorf("of %v, to %v: %v", r.of, r.classes, got)
		}
	}
	for _, wrong := range []impl.Drug{
		{}, {Classes: []int64{2}}, drugIn(2, 2), drugIn(5, 2), drugIn(-1, 2), drugIn(2, 64), drugIn(peopleTo(0, 11)...),
		drugAs(func(d *impl.Drug) { d.Id = 0 }), drugAs(func(d *impl.Drug) { d.Id = 1001 }),
		drugAs(func(d *impl.Drug) { d.Most = 0 }), drugAs(func(d *impl.Drug) { d.Kidney = 101 }),
	} {
		if impl.Allergic(wrong, []int64{2, 5, -1, 64}) {
			t.Errorf("%+v", wrong)
		}
	}
}

func TestAllergicToEachClass(t *testing.T) {
	coins := rand.New(rand.NewSource(91))
	for range 500 {
		d := randomDrug(coins)
		for class := int64(-70); class <= 140; class++ {
			if got := impl.Allergic(d, []int64{class}); got != slices.Contains(d.Classes, class) {
				t.Fatalf("%v, %d: %v", d.Classes, class, got)
			}
			if got := impl.Allergic(d, []int64{-1, class, 64}); got != slices.Contains(d.Classes, class) {
				t.Fatalf("%v, %d among others: %v", d.Classes, class, got)
			}
		}
	}
}

// drugsWithRoom has drugs with spare room behind them and their classes, and what tells all of that anew.
func drugsWithRoom() ([]impl.Drug, func() []impl.Drug) {
	room := append(drugsIn([]int64{2, 5}, []int64{7}, []int64{2, 7}), drugIn(44), drugIn(55))
	for at := range room {
		room[at].Classes = append(room[at].Classes, 33, 34)[:len(room[at].Classes)]
	}
	return room[:3], func() []impl.Drug {
		all := slices.Clone(room)
		for at := range all {
			all[at].Classes = slices.Clone(room[at].Classes[:len(room[at].Classes)+2])
		}
		return all
	}
}

func sameDrugs(a, b []impl.Drug) bool {
	return slices.EqualFunc(a, b, func(a, b impl.Drug) bool {
		return a.Id == b.Id && slices.Equal(a.Classes, b.Classes) && a.PerKilo == b.PerKilo && a.Most == b.Most && a.DayMost == b.DayMost && a.Kidney == b.Kidney
	})
}

func TestDrugsAndRulesStay(t *testing.T) {
	drugs, all := drugsWithRoom()
	rules := []impl.Rule{ruleOf(7, 2, 1), ruleOf(5, 7, 3), ruleOf(1, 1, 1), ruleOf(2, 2, 2)}
	classes := []int64{9, 5, 7, 1, 33}
	drugsBefore, rulesBefore, classesBefore := all(), slices.Clone(rules), slices.Clone(classes)
	first := impl.Interactions(drugs, rules[:2])
	want := slices.Clone(first)
	for _, d := range drugs {
		impl.DrugOk(d)
		impl.DoseFor(d, 1000, 50)
		impl.Allergic(d, classes[:3])
		impl.MayGive(d, nil, 0, 1)
	}
	if !sameDrugs(all(), drugsBefore) || !slices.Equal(rules, rulesBefore) || !slices.Equal(classes, classesBefore) {
		t.Fatal(all(), rules, classes)
	}
	for at := range first {
		first[at] = impl.Warning{}
	}
	if again := impl.Interactions(drugs, rules[:2]); !slices.Equal(again, want) || len(want) == 0 {
		t.Fatal(again, want)
	}
}
