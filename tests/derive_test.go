package tests

import (
	"math"
	"math/rand"
	"slices"
	"testing"

	"loop.example/g00060/impl"
)

func ifOf(then int64, facts ...int64) impl.Law { return impl.Law{If: facts, Then: then} }

func notOf(then int64, facts ...int64) impl.Law { return impl.Law{Not: facts, Then: then} }

func areWithinFacts(facts []int64) bool {
	wrong := slices.ContainsFunc(facts, func(fact int64) bool { return !within(fact, 0, 63) })
	return !wrong && len(facts) <= 64
}

func areLaws(laws []impl.Law) bool {
	for _, l := range laws {
		if !within(l.Then, 0, 63) || !areWithinFacts(l.If) || !areWithinFacts(l.Not) {
			return false
		}
		if len(l.If) > 0 && slices.Max(l.If) >= l.Then || len(l.Not) > 0 && slices.Max(l.Not) >= l.Then {
			return false
		}
	}
	return len(laws) <= 200
}

// wantedFacts asks for each fact what it hangs on, down to those that hang on nothing.
type wantedFacts struct {
	facts []int64
	laws  []impl.Law
	known map[int64]bool
}

func (w wantedFacts) holds(fact int64) bool {
	if told, is := w.known[fact]; is {
		return told
	}
	w.known[fact] = slices.Contains(w.facts, fact) || slices.ContainsFunc(w.laws, func(l impl.Law) bool { return l.Then == fact && w.applies(l) })
	return w.known[fact]
}

func (w wantedFacts) applies(l impl.Law) bool {
	for _, fact := range l.If {
		if !w.holds(fact) {
			return false
		}
	}
	return !slices.ContainsFunc(l.Not, w.holds)
}

func factsOf(facts []int64, laws []impl.Law) wantedFacts {
	return wantedFacts{facts, laws, map[int64]bool{}}
}

func wantedDerive(facts []int64, laws []impl.Law) []int64 {
	told := []int64{}
	if !areWithinFacts(facts) || !areLaws(laws) {
		return told
	}
	all := factsOf(facts, laws)
	for fact := range int64(64) {
		if all.holds(fact) {
			told = append(told, fact)
		}
	}
	return told
}

func wantedReason(facts []int64, laws []impl.Law, fact int64) int64 {
	if !slices.Contains(wantedDerive(facts, laws), fact) {
		return -2
	}
	if slices.Contains(facts, fact) {
		return -1
	}
	all := factsOf(facts, laws)
	for at, l := range laws {
		if l.Then == fact && all.applies(l) {
			return int64(at)
		}
	}
	return math.MinInt64
}

func checkDerive(t *testing.T, what string, facts []int64, laws []impl.Law, want ...int64) {
	t.Helper()
	if got := impl.Derive(facts, laws); !slices.Equal(got, want) {
		t.Errorf("%s: Derive(%v, %v) = %v, want %v", what, facts, laws, got, want)
	}
	if told := wantedDerive(facts, laws); !slices.Equal(told, want) {
		t.Errorf("%s: the test itself tells %v, want %v", what, told, want)
	}
	for fact := int64(-1); fact <= 64; fact++ {
		if got, told := impl.Why(facts, laws, fact), wantedReason(facts, laws, fact); got != told {
			t.Errorf("%s: Why(%v, %v, %d) = %d, want %d", what, facts, laws, fact, got, told)
		}
	}
}

func TestDeriveWithoutLaws(t *testing.T) {
	checkDerive(t, "nothing", nil, nil)
	checkDerive(t, "nothing, but not nil", []int64{}, []impl.Law{})
	checkDerive(t, "one fact", []int64{5}, nil, 5)
	checkDerive(t, "rising", []int64{0, 5, 63}, nil, 0, 5, 63)
	checkDerive(t, "falling", []int64{63, 5, 0}, nil, 0, 5, 63)
	checkDerive(t, "in no order", []int64{5, 63, 0, 7}, nil, 0, 5, 7, 63)
	checkDerive(t, "twice", []int64{5, 5}, nil, 5)
	checkDerive(t, "twice, parted", []int64{5, 2, 5, 2, 5}, nil, 2, 5)
	for _, fact := range []int64{0, 1, 31, 32, 62, 63} {
		checkDerive(t, "a fact", []int64{fact}, nil, fact)
	}
	for _, fact := range []int64{math.MinInt64, -64, -1, 64, 65, 128, math.MaxInt64} {
		checkDerive(t, "no fact", []int64{fact}, nil)
		checkDerive(t, "no fact behind others", []int64{1, 2, fact}, nil)
		checkDerive(t, "no fact ahead of others", []int64{fact, 1, 2}, []impl.Law{ifOf(5)})
	}
}

func TestDeriveByOneLaw(t *testing.T) {
	both := impl.Law{If: []int64{1, 2}, Not: []int64{3, 4}, Then: 9}
	for _, c := range []struct {
		what  string
		facts []int64
		law   impl.Law
		want  []int64
	}{
		{"neither If nor Not", nil, ifOf(9), []int64{9}}, {"neither If nor Not, of 0", nil, ifOf(0), []int64{0}}, {"neither If nor Not, of 63", []int64{2}, ifOf(63), []int64{2, 63}},
		{"an If that holds", []int64{1}, ifOf(9, 1), []int64{1, 9}}, {"an If that does not", []int64{2}, ifOf(9, 1), []int64{2}}, {"an If of nothing", nil, ifOf(9, 1), nil},
		{"two of If, both hold", []int64{1, 2}, ifOf(9, 1, 2), []int64{1, 2, 9}}, {"two of If, the first holds", []int64{1}, ifOf(9, 1, 2), []int64{1}}, {"two of If, the second holds", []int64{2}, ifOf(9, 1, 2), []int64{2}},
		{"If twice the same", []int64{1}, ifOf(9, 1, 1), []int64{1, 9}}, {"If not rising", []int64{1, 2}, ifOf(9, 2, 1), []int64{1, 2, 9}},
		{"a Not that does not hold", []int64{2}, notOf(9, 1), []int64{2, 9}}, {"a Not that holds", []int64{1}, notOf(9, 1), []int64{1}}, {"a Not of nothing", nil, notOf(9, 1), []int64{9}},
		{"two of Not, none holds", nil, notOf(9, 1, 2), []int64{9}}, {"two of Not, the first holds", []int64{1}, notOf(9, 1, 2), []int64{1}}, {"two of Not, the second holds", []int64{2}, notOf(9, 1, 2), []int64{2}}, {"two of Not, both hold", []int64{1, 2}, notOf(9, 1, 2), []int64{1, 2}},
		{"both, all well", []int64{1, 2}, both, []int64{1, 2, 9}}, {"both, an If lacks", []int64{2}, both, []int64{2}}, {"both, a Not holds", []int64{1, 2, 4}, both, []int64{1, 2, 4}}, {"both, neither well", []int64{3}, both, []int64{3}},
		{"one in If and in Not, that holds", []int64{1}, impl.Law{If: []int64{1}, Not: []int64{1}, Then: 9}, []int64{1}}, {"one in If and in Not, that does not", nil, impl.Law{If: []int64{1}, Not: []int64{1}, Then: 9}, nil},
		{"what was given follows too", []int64{1, 9}, ifOf(9, 1), []int64{1, 9}}, {"what was given does not follow", []int64{1, 9}, notOf(9, 1), []int64{1, 9}},
		{"from 0 to 1", []int64{0}, ifOf(1, 0), []int64{0, 1}}, {"from 62 to 63", []int64{62}, ifOf(63, 62), []int64{62, 63}}, {"from 0 to 63", []int64{0}, ifOf(63, 0), []int64{0, 63}}, {"not 62, so 63", nil, notOf(63, 62), []int64{63}},
	} {
		checkDerive(t, c.what, c.facts, []impl.Law{c.law}, c.want...)
	}
}

func TestDeriveByChains(t *testing.T) {
	checkDerive(t, "one behind the other", []int64{1}, []impl.Law{ifOf(2, 1), ifOf(3, 2), ifOf(4, 3)}, 1, 2, 3, 4)
	checkDerive(t, "one ahead of the other", []int64{1}, []impl.Law{ifOf(4, 3), ifOf(3, 2), ifOf(2, 1)}, 1, 2, 3, 4)
	checkDerive(t, "a chain that breaks", []int64{1}, []impl.Law{ifOf(4, 3), ifOf(2, 1), ifOf(5, 4)}, 1, 2)
	checkDerive(t, "a chain from the midst", []int64{3}, []impl.Law{ifOf(2, 1), ifOf(3, 2), ifOf(4, 3)}, 3, 4)
	checkDerive(t, "what follows bars another", []int64{1}, []impl.Law{notOf(5, 2), ifOf(2, 1)}, 1, 2)
	checkDerive(t, "what is barred bars nothing", []int64{1}, []impl.Law{notOf(5, 2), notOf(2, 1)}, 1, 5)
	checkDerive(t, "not by not by not", nil, []impl.Law{notOf(4, 3), notOf(3, 2), notOf(2, 1)}, 2, 4)
	checkDerive(t, "not by not by not, from 1 on", []int64{1}, []impl.Law{notOf(4, 3), notOf(3, 2), notOf(2, 1)}, 1, 3)
	checkDerive(t, "from nothing", nil, []impl.Law{ifOf(9, 8), ifOf(8, 0), ifOf(0)}, 0, 8, 9)
	up, down := []impl.Law{}, []impl.Law{}
	for fact := range int64(63) {
		up = append(up, ifOf(fact+1, fact))
		down = append(down, notOf(fact+1, fact))
	}
	even, odd := []int64{}, []int64{}
	for fact := range int64(64) {
		if fact%2 == 0 {
			even = append(even, fact)
		} else {
			odd = append(odd, fact)
		}
	}
	checkDerive(t, "all facts by one", []int64{0}, up, numbersTo(64)...)
	checkDerive(t, "each second one", []int64{0}, down, even...)
	checkDerive(t, "each other one", nil, down, odd...)
	slices.Reverse(up)
	slices.Reverse(down)
	checkDerive(t, "all facts by one, the last law first", []int64{0}, up, numbersTo(64)...)
	checkDerive(t, "each second one, the last law first", []int64{0}, down, even...)
	checkDerive(t, "none by none", nil, up)
}

func TestTwoLawsWithOneThen(t *testing.T) {
	laws := []impl.Law{ifOf(9, 1), ifOf(9, 2)}
	checkDerive(t, "by the first", []int64{1}, laws, 1, 9)
	checkDerive(t, "by the second", []int64{2}, laws, 2, 9)
	checkDerive(t, "by both", []int64{2, 1}, laws, 1, 2, 9)
	checkDerive(t, "by neither", []int64{3}, laws, 3)
	checkDerive(t, "one allows, one bars", []int64{1}, []impl.Law{ifOf(9, 1), notOf(9, 1)}, 1, 9)
	checkDerive(t, "whatever holds", nil, []impl.Law{ifOf(9, 1), notOf(9, 1)}, 9)
	checkDerive(t, "the same twice", []int64{1}, []impl.Law{ifOf(9, 1), ifOf(9, 1)}, 1, 9)
}

// A law that is wrong leaves nothing, also where it does not apply and where another one tells the same.
func checkWrongLaw(t *testing.T, what string, law impl.Law) {
	t.Helper()
	checkDerive(t, what, []int64{1, 2}, []impl.Law{law})
	checkDerive(t, what+", behind another", []int64{1, 2}, []impl.Law{ifOf(9, 1), law})
	checkDerive(t, what+", ahead of another", nil, []impl.Law{law, ifOf(9)})
}

func TestNumbersOfLaws(t *testing.T) {
	for _, then := range []int64{0, 1, 62, 63} {
		checkDerive(t, "Then", nil, []impl.Law{ifOf(then)}, then)
	}
	for _, n := range []int64{math.MinInt64, -64, -1, 64, 65, math.MaxInt64} {
		checkWrongLaw(t, "Then", ifOf(n))
		checkWrongLaw(t, "Then above an If", ifOf(n, 1))
		checkWrongLaw(t, "If", ifOf(9, n))
		checkWrongLaw(t, "If of the greatest Then", ifOf(63, n))
		checkWrongLaw(t, "Not", notOf(9, n))
		checkWrongLaw(t, "Not of the greatest Then", notOf(63, n))
		checkWrongLaw(t, "If, among others", ifOf(9, 1, n, 2))
		checkWrongLaw(t, "Not, among others", notOf(9, 3, n, 4))
		checkWrongLaw(t, "Then and If", ifOf(n, n))
	}
	for _, n := range []int64{0, 62} {
		checkDerive(t, "If", []int64{n}, []impl.Law{ifOf(63, n)}, n, 63)
		checkDerive(t, "Not", nil, []impl.Law{notOf(63, n)}, 63)
	}
}

func TestThenMustBeGreater(t *testing.T) {
	for _, then := range []int64{0, 1, 5, 62, 63} {
		checkWrongLaw(t, "equal to an If", ifOf(then, then))
		checkWrongLaw(t, "equal to a Not", notOf(then, then))
		checkWrongLaw(t, "below an If", ifOf(then, min(then+1, 63)))
		checkWrongLaw(t, "below a Not", notOf(then, min(then+1, 63)))
		checkWrongLaw(t, "far below", ifOf(then, 63))
		checkWrongLaw(t, "far below a Not", notOf(then, 63))
	}
	checkWrongLaw(t, "below the first of If", ifOf(5, 6, 1))
	checkWrongLaw(t, "below the last of If", ifOf(5, 1, 6))
	checkWrongLaw(t, "equal to one between in If", ifOf(5, 1, 5, 2))
	checkWrongLaw(t, "below the first of Not", notOf(5, 6, 1))
	checkWrongLaw(t, "equal to the last of Not", notOf(5, 1, 5))
	checkWrongLaw(t, "above If, equal to Not", impl.Law{If: []int64{1}, Not: []int64{5}, Then: 5})
	checkWrongLaw(t, "above Not, below If", impl.Law{If: []int64{6}, Not: []int64{1}, Then: 5})
	checkDerive(t, "just above both", []int64{4}, []impl.Law{{If: []int64{4}, Not: []int64{3}, Then: 5}}, 4, 5)
	checkDerive(t, "a given fact may be above it", []int64{1, 60}, []impl.Law{ifOf(5, 1)}, 1, 5, 60)
}

func TestHowManyFacts(t *testing.T) {
	law := []impl.Law{ifOf(63, 5)}
	checkDerive(t, "all facts", numbersTo(64), law, numbersTo(64)...)
	checkDerive(t, "all but the last", numbersTo(63), law, numbersTo(64)...)
	checkDerive(t, "MaxFact times one", slices.Repeat([]int64{5}, 64), law, 5, 63)
	checkDerive(t, "one time more", slices.Repeat([]int64{5}, 65), law)
	checkDerive(t, "all facts, and one twice", append(numbersTo(64), 5), law)
	checkDerive(t, "many more", make([]int64, 1000), law)
}

func TestHowManyLaws(t *testing.T) {
	laws := slices.Repeat([]impl.Law{ifOf(9, 8)}, 202)
	laws[199] = ifOf(7, 1)
	checkDerive(t, "one fewer", []int64{1}, laws[1:200], 1, 7)
	checkDerive(t, "MaxRules", []int64{1}, laws[:200], 1, 7)
	checkDerive(t, "one more", []int64{1}, laws[:201])
	checkDerive(t, "two more", []int64{1}, laws)
	if why := impl.Why([]int64{1}, laws[:200], 7); why != 199 {
		t.Error(why)
	}
	if why := impl.Why([]int64{1}, laws[:201], 7); why != -2 {
		t.Error(why)
	}
}

func TestHowManyNumbersOfALaw(t *testing.T) {
	for count, right := range map[int]bool{63: true, 64: true, 65: false, 1000: false} {
		ones := slices.Repeat([]int64{1}, count)
		follows, barred := []int64{1, 63}, []int64{1}
		if !right {
			follows, barred = nil, nil
		}
		checkDerive(t, "If", []int64{1}, []impl.Law{ifOf(63, ones...)}, follows...)
		checkDerive(t, "Not", []int64{1}, []impl.Law{notOf(63, ones...)}, barred...)
		checkDerive(t, "If and Not", []int64{1}, []impl.Law{{If: ones, Not: slices.Repeat([]int64{2}, count), Then: 63}}, follows...)
	}
	last := append(slices.Repeat([]int64{1}, 63), 2)
	checkDerive(t, "the last of MaxFact in If", []int64{1}, []impl.Law{ifOf(63, last...)}, 1)
	checkDerive(t, "the last of MaxFact in Not", []int64{2}, []impl.Law{notOf(63, last...)}, 2)
	checkDerive(t, "all that may be in an If", numbersTo(63), []impl.Law{ifOf(63, numbersTo(63)...)}, numbersTo(64)...)
	checkDerive(t, "all that may be in a Not", nil, []impl.Law{notOf(63, numbersTo(63)...)}, 63)
}

func checkWhy(t *testing.T, what string, facts []int64, laws []impl.Law, fact int64, want int64) {
	t.Helper()
	if got := impl.Why(facts, laws, fact); got != want {
		t.Errorf("%s: Why(%v, %v, %d) = %d, want %d", what, facts, laws, fact, got, want)
	}
	if told := wantedReason(facts, laws, fact); told != want {
		t.Errorf("%s: the test itself tells %d, want %d", what, told, want)
	}
}

func TestWhy(t *testing.T) {
	laws := []impl.Law{ifOf(9, 3), ifOf(9, 1), ifOf(9, 2), notOf(10, 9), ifOf(5), ifOf(10, 9), notOf(11, 4), {If: []int64{1}, Not: []int64{2}, Then: 12}}
	facts := []int64{2, 1}
	checkWhy(t, "given", facts, laws, 1, -1)
	checkWhy(t, "given, the first", facts, laws, 2, -1)
	checkWhy(t, "by several: the first that applies", facts, laws, 9, 1)
	checkWhy(t, "by the second of several", []int64{2}, laws, 9, 2)
	checkWhy(t, "by the first of several", []int64{3, 2, 1}, laws, 9, 0)
	checkWhy(t, "by one with neither If nor Not", facts, laws, 5, 4)
	checkWhy(t, "by what follows", facts, laws, 10, 5)
	checkWhy(t, "by what does not follow", nil, laws, 10, 3)
	checkWhy(t, "by a Not", facts, laws, 11, 6)
	checkWhy(t, "by both", []int64{1}, laws, 12, 7)
	checkWhy(t, "barred", facts, laws, 12, -2)
	checkWhy(t, "given, and it would follow", []int64{1, 9}, laws, 9, -1)
	checkWhy(t, "given twice", []int64{9, 9}, laws, 9, -1)
	checkWhy(t, "given, and barred", []int64{1, 2, 12}, laws, 12, -1)
	checkWhy(t, "does not hold", facts, laws, 3, -2)
	checkWhy(t, "no law has it", facts, laws, 63, -2)
	checkWhy(t, "nothing at all", nil, nil, 0, -2)
	checkWhy(t, "0 is given", []int64{0}, nil, 0, -1)
	checkWhy(t, "63 is given", []int64{63}, nil, 63, -1)
	checkWhy(t, "0 follows", nil, []impl.Law{ifOf(0)}, 0, 0)
	checkWhy(t, "63 follows", nil, []impl.Law{ifOf(0), ifOf(63, 0)}, 63, 1)
	for _, fact := range []int64{math.MinInt64, -2, -1, 64, 65, math.MaxInt64} {
		checkWhy(t, "out of range", facts, laws, fact, -2)
		checkWhy(t, "out of range, nothing at all", nil, nil, fact, -2)
	}
}

// Where Derive tells nothing no fact holds, not even one that stands among the facts.
func TestWhyWhereNothingIsTold(t *testing.T) {
	right := []impl.Law{ifOf(9, 1)}
	for _, c := range []struct {
		what  string
		facts []int64
		laws  []impl.Law
	}{
		{"a fact out of range", []int64{1, 64}, right}, {"a fact below", []int64{-1, 1}, right}, {"too many facts", slices.Repeat([]int64{1}, 65), right},
		{"a Then out of range", []int64{1}, []impl.Law{ifOf(9, 1), ifOf(64, 1)}}, {"a Then that is not greater", []int64{1}, []impl.Law{ifOf(9, 1), ifOf(1, 1)}},
		{"an If out of range", []int64{1}, []impl.Law{ifOf(9, 1), ifOf(9, -1)}}, {"too many laws", []int64{1}, slices.Repeat(right, 201)}, {"too long a Not", []int64{1}, []impl.Law{ifOf(9, 1), notOf(9, make([]int64, 65)...)}},
	} {
		for _, fact := range []int64{-1, 0, 1, 9, 63, 64} {
			checkWhy(t, c.what, c.facts, c.laws, fact, -2)
		}
	}
}

// randomFacts has a few facts below the bound, at times twice.
func randomFacts(coins *rand.Rand, most int, bound int64) []int64 {
	facts := []int64{}
	for range coins.Intn(most + 1) {
		facts = append(facts, coins.Int63n(bound))
	}
	return facts
}

// randomLaws are right, and have a Not only where that is asked for.
func randomLaws(coins *rand.Rand, most int, withNot bool) []impl.Law {
	laws := []impl.Law{}
	bound := 2 + coins.Int63n(63)
	for range coins.Intn(most + 1) {
		law := impl.Law{Then: coins.Int63n(bound)}
		if law.Then > 0 {
			law.If = randomFacts(coins, 2, law.Then)
		}
		if law.Then > 0 && len(law.If) == 0 && coins.Intn(4) > 0 { // else too much holds whatever the facts
			law.If = []int64{coins.Int63n(law.Then)}
		}
		if law.Then > 0 && withNot {
			law.Not = randomFacts(coins, 2, law.Then)
		}
		laws = append(laws, law)
	}
	return laws
}

func TestDeriveOfManyLaws(t *testing.T) {
	coins := rand.New(rand.NewSource(139))
	followed, refused := 0, 0
	wild := []int64{math.MinInt64, -1, 0, 1, 5, 63, 64, math.MaxInt64}
	for range 2000 {
		facts, laws := randomFacts(coins, 6, 64), randomLaws(coins, 40, coins.Intn(3) > 0)
		if len(laws) > 0 && coins.Intn(8) == 0 {
			l := &laws[coins.Intn(len(laws))]
			l.If, l.Not = append(l.If, 0), append(l.Not, 0)
			*[]*int64{&l.Then, &l.If[0], &l.Not[0]}[coins.Intn(3)] = wild[coins.Intn(len(wild))]
		}
		if len(facts) > 0 && coins.Intn(15) == 0 {
			facts[coins.Intn(len(facts))] = wild[coins.Intn(len(wild))]
		}
		told, want := impl.Derive(facts, laws), wantedDerive(facts, laws)
		if !slices.Equal(told, want) {
			t.Fatalf("Derive(%v, %v) = %v, want %v", facts, laws, told, want)
		}
		if !areWithinFacts(facts) || !areLaws(laws) {
			refused++
		}
		for fact := int64(-1); fact <= 64; fact++ {
			why := impl.Why(facts, laws, fact)
			if why != wantedReason(facts, laws, fact) {
				t.Fatalf("Why(%v, %v, %d) = %d", facts, laws, fact, why)
			}
			if why >= 0 {
				followed++
			}
		}
	}
	if followed < 2000 || refused < 200 {
		t.Error(followed, refused)
	}
}

// fewerOf leaves out some of them.
func fewerOf(coins *rand.Rand, facts []int64) []int64 {
	fewer := []int64{}
	for _, fact := range facts {
		if coins.Intn(3) > 0 {
			fewer = append(fewer, fact)
		}
	}
	return fewer
}

// Promise 16: Derive of fewer facts, where no law has a Not, tells fewer: what follows goes when the facts go, and nothing comes.
func TestFewerFactsTellFewer(t *testing.T) {
	coins := rand.New(rand.NewSource(140))
	went, wentAsWell := 0, 0
	for range 5000 {
		facts, laws := randomFacts(coins, 12, 64), randomLaws(coins, 80, false)
		fewer := fewerOf(coins, facts)
		told, less := impl.Derive(facts, laws), impl.Derive(fewer, laws)
		for _, fact := range less {
			if !slices.Contains(told, fact) {
				t.Fatalf("%d holds by %v, but not by %v: %v", fact, fewer, facts, laws)
			}
		}
		for _, fact := range facts {
			if !slices.Contains(told, fact) {
				t.Fatalf("Derive(%v, %v) = %v", facts, laws, told)
			}
		}
		if len(less) < len(told) {
			went++
		}
		for _, fact := range told {
			if !slices.Contains(facts, fact) && !slices.Contains(less, fact) {
				wentAsWell++
			}
		}
	}
	if went < 1000 || wentAsWell < 1000 {
		t.Error(went, wentAsWell)
	}
}

// With a Not it may be otherwise: what a fact barred comes when it goes.
func TestFewerFactsMayTellMoreByANot(t *testing.T) {
	laws := []impl.Law{notOf(5, 1)}
	checkDerive(t, "barred", []int64{1, 2}, laws, 1, 2)
	checkDerive(t, "no longer barred", []int64{2}, laws, 2, 5)
}

// Promise 16: Why tells a law that holds, and none ahead of it does; and it tells one for all that Derive tells beside the facts, and for nothing else.
func TestWhyTellsALawThatHolds(t *testing.T) {
	coins := rand.New(rand.NewSource(141))
	seen := 0
	for range 5000 {
		facts, laws := randomFacts(coins, 8, 64), randomLaws(coins, 60, true)
		told := impl.Derive(facts, laws)
		applies := func(l impl.Law) bool {
			has := func(fact int64) bool { return slices.Contains(told, fact) }
			lacks := func(fact int64) bool { return !has(fact) }
			return !slices.ContainsFunc(l.If, lacks) && !slices.ContainsFunc(l.Not, has)
		}
		for fact := range int64(64) {
			why := impl.Why(facts, laws, fact)
			if (why == -2) == slices.Contains(told, fact) || (why == -1) != slices.Contains(facts, fact) || why < -2 || why >= int64(len(laws)) {
				t.Fatalf("Why(%v, %v, %d) = %d", facts, laws, fact, why)
			}
			if why < 0 {
				continue
			}
			if law := laws[why]; law.Then != fact || !applies(law) {
				t.Fatalf("Why(%v, %v, %d) = %d", facts, laws, fact, why)
			}
			if slices.ContainsFunc(laws[:why], func(l impl.Law) bool { return l.Then == fact && applies(l) }) {
				t.Fatalf("Why(%v, %v, %d) = %d, which is not the first", facts, laws, fact, why)
			}
			seen++
		}
	}
	if seen < 5000 {
		t.Error(seen)
	}
}

// What holds is the same whatever the order of the facts and of the laws.
func TestDeriveInAnotherOrder(t *testing.T) {
	coins := rand.New(rand.NewSource(142))
	for range 1000 {
		facts, laws := randomFacts(coins, 10, 64), randomLaws(coins, 60, true)
		told := impl.Derive(facts, laws)
		coins.Shuffle(len(facts), func(a, b int) { facts[a], facts[b] = facts[b], facts[a] })
		coins.Shuffle(len(laws), func(a, b int) { laws[a], laws[b] = laws[b], laws[a] })
		if again := impl.Derive(facts, laws); !slices.Equal(again, told) {
			t.Fatal(told, again)
		}
	}
}

func TestLawsStayAndFactsAreNewMemory(t *testing.T) {
	room := []int64{7, 2, 7, 1, 99, 99}
	ifs, nots := []int64{2, 1, 99}, []int64{4, 3, 99}
	laws := []impl.Law{{If: ifs[:2], Not: nots[:2], Then: 9}, {If: ifs[:1], Then: 8}, {Then: -1}}
	one, other := impl.Derive(room[:4], laws[:2]), impl.Derive(room[:4], laws[:2])
	clear(other[:cap(other)])
	if why := impl.Why(room[:4], laws[:2], 9); why != 0 || !slices.Equal(one, []int64{1, 2, 7, 8, 9}) {
		t.Fatal(why, one)
	}
	// Where nothing follows the answer is as the facts are, but not the same memory.
	same := impl.Derive(room[3:4], nil)
	clear(same[:cap(same)])
	if !slices.Equal(room, []int64{7, 2, 7, 1, 99, 99}) || !slices.Equal(ifs, []int64{2, 1, 99}) || !slices.Equal(nots, []int64{4, 3, 99}) {
		t.Fatal(room, ifs, nots)
	}
	if len(laws[0].If) != 2 || laws[2].Then != -1 {
		t.Fatal(laws)
	}
}
