package tests

import (
	"math"
	"math/rand"
	"slices"
	"testing"

	"loop.example/g00060/impl"
)

// reflexesOf takes a test, a low, a high and a then for each rule.
func reflexesOf(numbers ...int64) []impl.Reflex {
	var rules []impl.Reflex
	for at := 0; at < len(numbers); at += 4 {
		rules = append(rules, impl.Reflex{Test: numbers[at], Low: numbers[at+1], High: numbers[at+2], Then: numbers[at+3]})
	}
	return rules
}

// valuesOf takes a test and its value in turn.
func valuesOf(numbers ...int64) []impl.Value {
	var values []impl.Value
	for at := 0; at < len(numbers); at += 2 {
		values = append(values, impl.Value{Test: numbers[at], Value: numbers[at+1]})
	}
	return values
}

func areReflexes(rules []impl.Reflex, values []impl.Value, asked []int64) bool {
	for _, r := range rules {
		if !within(r.Test, 0, 99) || !within(r.Then, 0, 99) || !within(r.Low, -100000, 100000) || !within(r.High, -100000, 100000) {
			return false
		}
	}
	for at, v := range values {
		twice := slices.ContainsFunc(values[:at], func(other impl.Value) bool { return other.Test == v.Test })
		if twice || !within(v.Test, 0, 99) {
			return false
		}
	}
	wrong := slices.ContainsFunc(asked, func(test int64) bool { return !within(test, 0, 99) })
	return !wrong && len(rules) <= 200 && len(values) <= 100 && len(asked) <= 100
}

// addsTo asks whether the rule adds its Then to those tests.
func addsTo(r impl.Reflex, values []impl.Value, tests []int64) bool {
	found := slices.ContainsFunc(values, func(v impl.Value) bool {
		return v.Test == r.Test && within(v.Value, r.Low, r.High)
	})
	return found && slices.Contains(tests, r.Test) && !slices.Contains(tests, r.Then)
}

// wantedReflexes goes by the document's words, with nothing kept between one rule and the next.
func wantedReflexes(rules []impl.Reflex, values []impl.Value, asked []int64) []int64 {
	tests := []int64{}
	if !areReflexes(rules, values, asked) {
		return tests
	}
	for _, test := range asked {
		if !slices.Contains(tests, test) {
			tests = append(tests, test)
		}
	}
	for {
		first := slices.IndexFunc(rules, func(r impl.Reflex) bool { return addsTo(r, values, tests) })
		if first < 0 {
			return tests
		}
		tests = append(tests, rules[first].Then)
	}
}

func checkReflexes(t *testing.T, what string, rules []impl.Reflex, values []impl.Value, asked []int64, want ...int64) {
	t.Helper()
	got := impl.Reflexes(rules, values, asked)
	if !slices.Equal(got, want) {
		t.Errorf("%s: Reflexes(%v, %v, %v) = %v, want %v", what, rules, values, asked, got, want)
	}
	if told := wantedReflexes(rules, values, asked); !slices.Equal(told, want) {
		t.Errorf("%s: the test itself tells %v, want %v", what, told, want)
	}
	if again := impl.Reflexes(rules, values, got); !slices.Equal(again, got) {
		t.Errorf("%s: of %v it tells %v", what, got, again)
	}
}

func TestReflexAtItsBounds(t *testing.T) {
	rules := reflexesOf(1, 5, 9, 2)
	for value, told := range map[int64][]int64{4: {1}, 5: {1, 2}, 6: {1, 2}, 8: {1, 2}, 9: {1, 2}, 10: {1}, -100000: {1}, 100000: {1}, 0: {1}} {
		checkReflexes(t, "one rule", rules, valuesOf(1, value), []int64{1}, told...)
	}
	checkReflexes(t, "Low and High the same", reflexesOf(1, 5, 5, 2), valuesOf(1, 5), []int64{1}, 1, 2)
	checkReflexes(t, "a Low above High", reflexesOf(1, 5, 4, 2, 1, 9, -9, 3), valuesOf(1, 5), []int64{1}, 1)
	checkReflexes(t, "a Low above High, the other end", reflexesOf(1, 5, 4, 2), valuesOf(1, 4), []int64{1}, 1)
	checkReflexes(t, "the test has no value", rules, valuesOf(2, 7), []int64{1}, 1)
	checkReflexes(t, "no values", rules, nil, []int64{1}, 1)
	checkReflexes(t, "a test without a value has not the value 0", reflexesOf(1, -9, 9, 2), valuesOf(3, 0), []int64{1}, 1)
	checkReflexes(t, "the value 0", reflexesOf(1, 0, 0, 2), valuesOf(1, 0), []int64{1}, 1, 2)
	checkReflexes(t, "the test is not asked for", rules, valuesOf(1, 7), []int64{3}, 3)
	checkReflexes(t, "what is asked for needs no value", rules, valuesOf(1, 7), []int64{5, 1}, 5, 1, 2)
	checkReflexes(t, "nothing is asked for", rules, valuesOf(1, 7), nil)
	checkReflexes(t, "nothing at all", nil, nil, nil)
	checkReflexes(t, "nothing, but not nil", []impl.Reflex{}, []impl.Value{}, []int64{})
	checkReflexes(t, "no rules", nil, valuesOf(1, 7), []int64{3, 1}, 3, 1)
}

func TestReflexesInTheirOrder(t *testing.T) {
	values := valuesOf(1, 1, 2, 2, 3, 3, 4, 4, 5, 5)
	checkReflexes(t, "one behind the other", reflexesOf(1, 1, 1, 2, 2, 2, 2, 3, 3, 3, 3, 4), values, []int64{1}, 1, 2, 3, 4)
	checkReflexes(t, "one ahead of the other", reflexesOf(3, 3, 3, 4, 2, 2, 2, 3, 1, 1, 1, 2), values, []int64{1}, 1, 2, 3, 4)
	checkReflexes(t, "from the first rule on again", reflexesOf(2, 2, 2, 9, 1, 1, 1, 2, 1, 1, 1, 8), values, []int64{1}, 1, 2, 9, 8)
	checkReflexes(t, "the other way round", reflexesOf(1, 1, 1, 8, 1, 1, 1, 2, 2, 2, 2, 9), values, []int64{1}, 1, 8, 2, 9)
	checkReflexes(t, "by the rules' order, not by that of what is asked for", reflexesOf(2, 2, 2, 8, 1, 1, 1, 9), values, []int64{1, 2}, 1, 2, 8, 9)
	checkReflexes(t, "that come to hold by a later one", reflexesOf(4, 4, 4, 5, 3, 3, 3, 4, 1, 1, 1, 3), values, []int64{2, 1}, 2, 1, 3, 4, 5)
	checkReflexes(t, "that do not hold in between", reflexesOf(1, 1, 1, 2, 2, 9, 9, 3, 3, 3, 3, 4), values, []int64{1}, 1, 2)
	checkReflexes(t, "what is asked for comes ahead", reflexesOf(1, 1, 1, 2, 1, 1, 1, 3), values, []int64{5, 3, 1}, 5, 3, 1, 2)
}

func TestReflexesThatMeet(t *testing.T) {
	values := valuesOf(1, 1, 2, 2, 3, 3)
	round := reflexesOf(1, 1, 1, 2, 2, 2, 2, 3, 3, 3, 3, 1)
	checkReflexes(t, "that ask for one another", round, values, []int64{1}, 1, 2, 3)
	checkReflexes(t, "from the second", round, values, []int64{2}, 2, 3, 1)
	checkReflexes(t, "from the last", round, values, []int64{3}, 3, 1, 2)
	checkReflexes(t, "two that ask for one another", reflexesOf(1, 1, 1, 2, 2, 2, 2, 1), values, []int64{2}, 2, 1)
	checkReflexes(t, "one that asks for itself", reflexesOf(1, 1, 1, 1), values, []int64{1}, 1)
	checkReflexes(t, "one that asks for itself, not asked for", reflexesOf(1, 1, 1, 1), values, []int64{2}, 2)
	checkReflexes(t, "that ask for what was asked for", reflexesOf(1, 1, 1, 2, 1, 1, 1, 3), values, []int64{3, 2, 1}, 3, 2, 1)
	checkReflexes(t, "two that ask for the same", reflexesOf(1, 1, 1, 9, 2, 2, 2, 9), values, []int64{1, 2}, 1, 2, 9)
	checkReflexes(t, "the same rule twice", reflexesOf(1, 1, 1, 9, 1, 1, 1, 9), values, []int64{1}, 1, 9)
	checkReflexes(t, "the first does not hold, the second does", reflexesOf(1, 2, 3, 9, 1, 0, 1, 9), values, []int64{1}, 1, 9)
}

func TestTestsAskedForTwice(t *testing.T) {
	rules := reflexesOf(1, 1, 1, 2)
	checkReflexes(t, "side by side", rules, valuesOf(1, 1), []int64{1, 1}, 1, 2)
	checkReflexes(t, "parted", rules, valuesOf(1, 1), []int64{7, 1, 7, 3, 1, 3}, 7, 1, 3, 2)
	checkReflexes(t, "what a rule would add", rules, valuesOf(1, 1), []int64{2, 1, 2}, 2, 1)
	checkReflexes(t, "100 times", rules, valuesOf(1, 1), slices.Repeat([]int64{1}, 100), 1, 2)
	checkReflexes(t, "101 times", rules, valuesOf(1, 1), slices.Repeat([]int64{1}, 101))
}

func TestNumbersOfReflexes(t *testing.T) {
	checkReflexes(t, "the least and the greatest test", reflexesOf(0, -100000, 100000, 99), valuesOf(0, 5), []int64{0}, 0, 99)
	checkReflexes(t, "the greatest and the least test", reflexesOf(99, -100000, 100000, 0), valuesOf(99, 5), []int64{99}, 99, 0)
	checkReflexes(t, "bounds at their ends", reflexesOf(1, 100000, 100000, 2, 3, -100000, -100000, 4), valuesOf(1, 100000, 3, -100000), []int64{1, 3}, 1, 3, 2, 4)
	for _, test := range []int64{math.MinInt64, -1, 100, 101, math.MaxInt64} {
		checkReflexes(t, "a rule of no test", reflexesOf(test, 0, 9, 2), valuesOf(1, 5), []int64{1})
		checkReflexes(t, "a rule for no test", reflexesOf(1, 0, 9, test), valuesOf(1, 5), []int64{1})
		checkReflexes(t, "a rule for no test that does not hold", reflexesOf(1, 0, 9, 2, 5, 0, 9, test), valuesOf(1, 5), []int64{1})
		checkReflexes(t, "a value of no test", reflexesOf(1, 0, 9, 2), valuesOf(1, 5, test, 5), []int64{1})
		checkReflexes(t, "no test asked for", reflexesOf(1, 0, 9, 2), valuesOf(1, 5), []int64{1, test})
		checkReflexes(t, "no test asked for, ahead", reflexesOf(1, 0, 9, 2), valuesOf(1, 5), []int64{test, 1})
	}
	for _, bound := range []int64{math.MinInt64, -100001, 100001, math.MaxInt64} {
		checkReflexes(t, "no Low", reflexesOf(1, bound, 9, 2), valuesOf(1, 5), []int64{1})
		checkReflexes(t, "no High", reflexesOf(1, 0, bound, 2), valuesOf(1, 5), []int64{1})
		checkReflexes(t, "no Low of a rule that is not asked", reflexesOf(1, 0, 9, 2, 7, bound, 9, 2), valuesOf(1, 5), []int64{1})
		// The chapter bounds Low and High, not what is found: such a value is just within no rule's.
		checkReflexes(t, "a value beyond all bounds", reflexesOf(1, -100000, 100000, 2, 3, 0, 9, 4), valuesOf(1, bound, 3, 5), []int64{1, 3}, 1, 3, 4)
	}
}

func TestTwoValuesOfOneTest(t *testing.T) {
	rules := reflexesOf(1, 0, 9, 2)
	checkReflexes(t, "not the same", rules, valuesOf(1, 5, 1, 6), []int64{1})
	checkReflexes(t, "the same", rules, valuesOf(1, 5, 1, 5), []int64{1})
	checkReflexes(t, "parted", rules, valuesOf(7, 0, 1, 5, 7, 0), []int64{1})
	checkReflexes(t, "nothing asked for", rules, valuesOf(7, 0, 7, 0), nil)
	checkReflexes(t, "two of one value", rules, valuesOf(1, 5, 7, 5), []int64{1}, 1, 2)
}

// allValues has each test's number as its value.
func allValues() []impl.Value {
	var values []impl.Value
	for test := range int64(100) {
		values = append(values, impl.Value{Test: test, Value: test})
	}
	return values
}

// chainedRules ask from each test for the next one, the last rule first.
func chainedRules() []impl.Reflex {
	var rules []impl.Reflex
	for test := int64(98); test >= 0; test-- {
		rules = append(rules, impl.Reflex{Test: test, Low: test, High: test, Then: test + 1})
	}
	return rules
}

func TestHowManyReflexes(t *testing.T) {
	all, chain := numbersTo(100), chainedRules()
	checkReflexes(t, "all tests by one", chain, allValues(), []int64{0}, all...)
	checkReflexes(t, "half of them", chain, allValues(), []int64{50}, all[50:]...)
	checkReflexes(t, "up to the one that has no value", chain, allValues()[:50], []int64{0}, all[:51]...)

	rules := slices.Repeat(reflexesOf(1, 9, 9, 2), 202)
	rules[199] = impl.Reflex{Test: 1, Low: 1, High: 1, Then: 7}
	checkReflexes(t, "one rule fewer", rules[1:200], allValues(), []int64{1}, 1, 7)
	checkReflexes(t, "MaxRules rules", rules[:200], allValues(), []int64{1}, 1, 7)
	checkReflexes(t, "one rule more", rules[:201], allValues(), []int64{1})
	checkReflexes(t, "two rules more", rules, allValues(), []int64{1})

	checkReflexes(t, "99 values", chain, allValues()[1:], []int64{98}, 98, 99)
	checkReflexes(t, "100 values", chain, allValues(), []int64{98}, 98, 99)
	checkReflexes(t, "101 values", chain, append(allValues(), impl.Value{Test: 5, Value: 5}), []int64{98})
	checkReflexes(t, "101 values, none alike", chain, append(allValues(), impl.Value{Test: 100, Value: 5}), []int64{98})

	down := slices.Clone(all)
	slices.Reverse(down)
	checkReflexes(t, "99 asked", chain, allValues(), down[1:], append(slices.Clone(down[1:]), 99)...)
	checkReflexes(t, "100 asked", chain, allValues(), down, down...)
	checkReflexes(t, "101 asked", chain, allValues(), append(slices.Clone(down), 0))
	checkReflexes(t, "100 asked, one twice", chain, allValues(), append(slices.Clone(down[1:]), 98), append(slices.Clone(down[1:]), 99)...)
}

// randomReflexes hold for values from 0 to 9 often, and are, at times, wrong.
func randomReflexes(coins *rand.Rand, count int, tests int64) []impl.Reflex {
	rules := make([]impl.Reflex, count)
	for at := range rules {
		low := coins.Int63n(10)
		rules[at] = impl.Reflex{Test: coins.Int63n(tests), Low: low, High: low + coins.Int63n(8) - 1, Then: coins.Int63n(tests)}
	}
	if count > 0 && coins.Intn(20) == 0 {
		r := &rules[coins.Intn(count)]
		wild := []int64{math.MinInt64, -100001, -1, 0, 99, 100, 100001, math.MaxInt64}
		*[]*int64{&r.Test, &r.Low, &r.High, &r.Then}[coins.Intn(4)] = wild[coins.Intn(len(wild))]
	}
	return rules
}

func randomValues(coins *rand.Rand, tests int64) []impl.Value {
	values := []impl.Value{}
	for _, test := range coins.Perm(int(tests)) {
		if coins.Intn(4) > 0 {
			values = append(values, impl.Value{Test: int64(test), Value: coins.Int63n(10)})
		}
	}
	if len(values) > 0 && coins.Intn(20) == 0 {
		values[coins.Intn(len(values))].Test = coins.Int63n(tests+2) - 1
	}
	return values
}

// comeAbout asks of each test told behind the asked ones for a rule that asks for it by those ahead, and that no rule is left.
func comeAbout(rules []impl.Reflex, values []impl.Value, told []int64, asked int) bool {
	for at := asked; at < len(told); at++ {
		adds := func(r impl.Reflex) bool { return r.Then == told[at] && addsTo(r, values, told[:at]) }
		if !slices.ContainsFunc(rules, adds) {
			return false
		}
	}
	return !slices.ContainsFunc(rules, func(r impl.Reflex) bool { return addsTo(r, values, told) })
}

// Promise 14: Reflexes of what it tells is itself.
func TestReflexesOfWhatTheyTell(t *testing.T) {
	coins := rand.New(rand.NewSource(117))
	added, refused := 0, 0
	for range 4000 {
		tests := 1 + coins.Int63n([]int64{6, 20, 100}[coins.Intn(3)])
		rules := randomReflexes(coins, coins.Intn([]int{8, 60, 201}[coins.Intn(3)]), tests)
		values := randomValues(coins, tests)
		asked := make([]int64, coins.Intn(6))
		for at := range asked {
			asked[at] = coins.Int63n(tests)
		}
		told, want := impl.Reflexes(rules, values, asked), wantedReflexes(rules, values, asked)
		if !slices.Equal(told, want) {
			t.Fatalf("Reflexes(%v, %v, %v) = %v, want %v", rules, values, asked, told, want)
		}
		if again := impl.Reflexes(rules, values, told); !slices.Equal(again, told) {
			t.Fatalf("Reflexes(%v, %v, %v) = %v, but it was told", rules, values, told, again)
		}
		if !areReflexes(rules, values, asked) {
			refused++
			continue
		}
		once := slices.Compact(slices.Sorted(slices.Values(asked)))
		if !comeAbout(rules, values, told, len(once)) {
			t.Fatalf("Reflexes(%v, %v, %v) = %v", rules, values, asked, told)
		}
		added += len(told) - len(once)
	}
	if added < 2000 || refused < 100 {
		t.Error(added, refused)
	}
}

// What is asked for in the end is, as a set, the same whatever the order of the rules and of the values.
func TestReflexesInAnotherOrder(t *testing.T) {
	coins := rand.New(rand.NewSource(118))
	for range 1000 {
		rules, values := randomReflexes(coins, 30, 15), randomValues(coins, 15)
		asked := []int64{coins.Int63n(15), coins.Int63n(15)}
		told := impl.Reflexes(rules, values, asked)
		coins.Shuffle(len(values), func(a, b int) { values[a], values[b] = values[b], values[a] })
		if again := impl.Reflexes(rules, values, asked); !slices.Equal(again, told) {
			t.Fatal(told, again)
		}
		coins.Shuffle(len(rules), func(a, b int) { rules[a], rules[b] = rules[b], rules[a] })
		again := impl.Reflexes(rules, values, asked)
		slices.Sort(told)
		slices.Sort(again)
		if !slices.Equal(told, again) {
			t.Fatal(told, again)
		}
	}
}

func TestReflexesStayAndTestsAreNewMemory(t *testing.T) {
	rules, values, asked := reflexesOf(1, 0, 9, 2, 2, 0, 9, 3, -1, -1, -1, -1), valuesOf(1, 5, 2, 5, 1, 9), []int64{7, 1, 7, 100, 100, 100}
	rulesBefore, valuesBefore, askedBefore := slices.Clone(rules), slices.Clone(values), slices.Clone(asked)
	one, other := impl.Reflexes(rules[:2], values[:2], asked[:3]), impl.Reflexes(rules[:2], values[:2], asked[:3])
	clear(other[:cap(other)])
	if !slices.Equal(one, []int64{7, 1, 2, 3}) {
		t.Fatal(one)
	}
	// Where nothing is added the answer is as what was asked for, but not the same memory.
	same := impl.Reflexes(nil, nil, asked[:2])
	clear(same[:cap(same)])
	if !slices.Equal(rules, rulesBefore) || !slices.Equal(values, valuesBefore) || !slices.Equal(asked, askedBefore) {
		t.Fatal(rules, values, asked)
	}
}
