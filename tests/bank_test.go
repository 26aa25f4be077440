package tests

import (
	"math"
	"math/rand"
	"slices"
	"testing"

	"loop.example/g00060/impl"
)

// unitCase is a change of a free unit, and whether it is as told then.
type unitCase struct {
	what   string
	change func(u *impl.Unit)
	right  bool
}

type needCase struct {
	what   string
	change func(n *impl.Need)
	right  bool
}

func needAs(change func(n *impl.Need)) impl.Need {
	n := needOf(9, 7)
	change(&n)
	return n
}

// antigenLists tells lists of antigens, and whether they are as told; all of these fit somebody who has antibodies against none.
func antigenLists() (right, wrong [][]int64) {
	right = [][]int64{nil, {}, {0}, {1}, {18}, {19}, {0, 19}, {0, 1}, {18, 19}, {3, 8, 12}, numbersTo(20), numbersTo(19), peopleTo(1, 19)}
	wrong = [][]int64{
		{-1}, {20}, {math.MinInt64}, {math.MaxInt64}, {-1, 0}, {19, 20}, {-1, 20}, {0, 19, 20}, {3, 20, 21}, {-20}, {32},
		{0, 0}, {19, 19}, {3, 3}, {3, 8, 8}, {3, 3, 8}, {3, 8, 3}, {8, 3}, {19, 0}, {1, 0}, {3, 12, 8}, {8, 3, 12},
		numbersTo(21), peopleTo(-1, 20), make([]int64, 20), append(numbersTo(20), 19), append(numbersTo(19), 18),
	}
	return right, wrong
}

func unitCases() []unitCase {
	cases := []unitCase{{"as it is", func(u *impl.Unit) {}, true}, {"nothing of it", func(u *impl.Unit) { *u = impl.Unit{} }, false}}
	add := func(what string, field func(u *impl.Unit) *int64, right []int64, wrong []int64) {
		for _, n := range right {
			cases = append(cases, unitCase{what, func(u *impl.Unit) { *field(u) = n }, true})
		}
		for _, n := range append(wrong, math.MinInt64, math.MaxInt64) {
			cases = append(cases, unitCase{what, func(u *impl.Unit) { *field(u) = n }, false})
		}
	}
	add("Id", func(u *impl.Unit) *int64 { return &u.Id }, []int64{1, 2, 999999, 1000000}, []int64{-1, 0, 1000001})
	add("Group", func(u *impl.Unit) *int64 { return &u.Group }, []int64{0, 1, 2, 3, 4, 5, 6, 7}, []int64{-8, -1, 8, 9, 15, 16})
	add("Until", func(u *impl.Unit) *int64 { return &u.Until }, []int64{0, 1, 9999999, 10000000}, []int64{-1, 10000001})
	add("State", func(u *impl.Unit) *int64 { return &u.State }, []int64{1, 4}, []int64{-1, 0, 2, 3, 5})
	for _, state := range []int64{1, 4} {
		for _, who := range []int64{math.MinInt64, -2, -1, 0, 1, 500, 999, 1000, math.MaxInt64} {
			cases = append(cases, unitCase{"For of nobody", func(u *impl.Unit) { u.State, u.For = state, who }, who == -1})
		}
	}
	for _, state := range []int64{2, 3} {
		for _, who := range []int64{math.MinInt64, -2, -1, 0, 1, 500, 999, 1000, math.MaxInt64} {
			cases = append(cases, unitCase{"For of somebody", func(u *impl.Unit) { u.State, u.For = state, who }, within(who, 0, 999)})
		}
	}
	for _, state := range []int64{math.MinInt64, -1, 0, 5, 6, math.MaxInt64} {
		for _, who := range []int64{-1, 0, 999, 1000} {
			cases = append(cases, unitCase{"For in no State", func(u *impl.Unit) { u.State, u.For = state, who }, false})
		}
	}
	right, wrong := antigenLists()
	for _, list := range right {
		cases = append(cases, unitCase{"Antigens", func(u *impl.Unit) { u.Antigens = list }, true})
	}
	for _, list := range wrong {
		cases = append(cases, unitCase{"Antigens", func(u *impl.Unit) { u.Antigens = list }, false})
	}
	return cases
}

func needCases() []needCase {
	cases := []needCase{{"as it is", func(n *impl.Need) {}, true}}
	for _, person := range []int64{math.MinInt64, -1, 0, 1, 998, 999, 1000, math.MaxInt64} {
		cases = append(cases, needCase{"Person", func(n *impl.Need) { n.Person = person }, within(person, 0, 999)})
	}
	for _, group := range []int64{math.MinInt64, -8, -1, 0, 1, 6, 7, 8, 15, math.MaxInt64} {
		cases = append(cases, needCase{"Group", func(n *impl.Need) { n.Group = group }, within(group, 0, 7)})
	}
	right, wrong := antigenLists()
	for _, list := range right {
		cases = append(cases, needCase{"Against", func(n *impl.Need) { n.Against = list }, true})
	}
	for _, list := range wrong {
		cases = append(cases, needCase{"Against", func(n *impl.Need) { n.Against = list }, false})
	}
	return cases
}

func isBank(units []impl.Unit) bool {
	for at, u := range units {
		if !isUnit(u) || at > 0 && units[at-1].Id >= u.Id {
			return false
		}
	}
	return len(units) <= 300
}

func sameUnit(a, b impl.Unit) bool {
	return a.Id == b.Id && a.Group == b.Group && slices.Equal(a.Antigens, b.Antigens) && a.Until == b.Until && a.State == b.State && a.For == b.For
}

func sameUnits(a, b []impl.Unit) bool { return slices.EqualFunc(a, b, sameUnit) }

func anewUnits(units []impl.Unit) []impl.Unit {
	list := slices.Clone(units)
	for at := range list {
		list[at].Antigens = slices.Clone(list[at].Antigens)
	}
	return list
}

func checkBankOk(t *testing.T, what string, units []impl.Unit, want bool) {
	t.Helper()
	if got := impl.BankOk(units); got != want {
		t.Errorf("%s: BankOk(%+v) = %v, want %v", what, units, got, want)
	}
	if isBank(units) != want {
		t.Errorf("%s: %+v is told wrongly by the test", what, units)
	}
	if !want {
		checkNoBank(t, what, units)
	}
}

// checkNoBank asks for the fixed answers to what is no bank.
func checkNoBank(t *testing.T, what string, units []impl.Unit) {
	t.Helper()
	for _, n := range []impl.Need{needOf(9, 7), needOf(0, 0), {}, needOf(-1, 8)} {
		for _, count := range []int64{-1, 0, 1, 100, 101} {
			if ids := impl.Pick(units, n, 50, count); len(ids) != 0 {
				t.Errorf("%s: Pick: %v", what, ids)
			}
		}
		for kind := int64(0); kind <= 5; kind++ {
			for _, id := range []int64{0, 1, 50, 51} {
				if next, code := impl.BloodDo(units, n, impl.Do{Kind: kind, Id: id, Time: 50}); code != 1 || len(next) != 0 {
					t.Errorf("%s: deed %d: %+v, %d", what, kind, next, code)
				}
			}
		}
	}
	for _, person := range []int64{-1, 0, 9, 999, 1000} {
		if ids := impl.TraceUnits(units, person); len(ids) != 0 {
			t.Errorf("%s: TraceUnits: %v", what, ids)
		}
	}
}

func TestUnitsOfABank(t *testing.T) {
	given := func(id int64) impl.Unit { return unitAs(id, func(u *impl.Unit) { u.State, u.For = 3, 9 }) }
	for _, c := range unitCases() {
		u := unitAs(50, c.change)
		checkBankOk(t, c.what, []impl.Unit{u}, c.right)
		if c.what == "Id" {
			continue
		}
		checkBankOk(t, c.what+", the first", []impl.Unit{u, given(51)}, c.right)
		checkBankOk(t, c.what+", the last", []impl.Unit{given(49), u}, c.right)
		checkBankOk(t, c.what+", between", []impl.Unit{given(49), u, unitOf(51, 0, 100)}, c.right)
	}
}

// unitsTo gives so many free units with the Ids 2, 4 and so on.
func unitsTo(count int) []impl.Unit {
	units := make([]impl.Unit, count)
	for at := range units {
		units[at] = unitOf(2*int64(at)+2, 0, 100)
	}
	return units
}

func TestHowManyUnits(t *testing.T) {
	checkBankOk(t, "none", nil, true)
	checkBankOk(t, "none, but not nil", []impl.Unit{}, true)
	for count, right := range map[int]bool{1: true, 299: true, 300: true, 301: false, 302: false, 1000: false} {
		checkBankOk(t, "units", unitsTo(count), right)
	}
	wrong := unitsTo(300)
	wrong[299].Until = -1
	checkBankOk(t, "the last of MaxUnits is wrong", wrong, false)
	wrong = unitsTo(300)
	wrong[299].Id = 598
	checkBankOk(t, "the last of MaxUnits is there twice", wrong, false)
}

func TestIdsOfUnits(t *testing.T) {
	for _, c := range []struct {
		ids   []int64
		right bool
	}{
		{[]int64{1, 2}, true}, {[]int64{1, 1000000}, true}, {[]int64{1, 2, 3}, true}, {[]int64{5, 99, 100, 999999, 1000000}, true},
		{[]int64{1, 1}, false}, {[]int64{2, 1}, false}, {[]int64{1, 2, 2}, false}, {[]int64{1, 1, 2}, false}, {[]int64{1, 3, 2}, false}, {[]int64{1, 2, 1}, false},
		{[]int64{2, 1, 3}, false}, {[]int64{3, 4, 1}, false}, {[]int64{1000000, 1000000}, false}, {[]int64{3, 2, 1}, false}, {[]int64{1000000, 1}, false},
		{[]int64{0, 1}, false}, {[]int64{999999, 1000000, 1000001}, false}, {[]int64{-1, 0, 1}, false},
	} {
		var units []impl.Unit
		for _, id := range c.ids {
			units = append(units, unitOf(id, 0, 100))
		}
		checkBankOk(t, "Ids", units, c.right)
	}
}

// One person may have many units, and units with one Until, group and antigens are no fault.
func TestWhatABankDoesNotAsk(t *testing.T) {
	var units []impl.Unit
	for id := int64(1); id <= 8; id++ {
		units = append(units, impl.Unit{Id: id, Group: 5, Antigens: []int64{1, 2}, Until: 7, State: 2 + id%2, For: 9})
	}
	checkBankOk(t, "all for one", units, true)
}

// randomBank is a bank of units of few groups, antigens and persons, so that much of it meets.
func randomBank(coins *rand.Rand, most int) []impl.Unit {
	var units []impl.Unit
	id := int64(0)
	for range coins.Intn(most + 1) {
		id += 1 + coins.Int63n(3)
		u := unitOf(id, coins.Int63n(8), coins.Int63n(12), randomAntigens(coins, 4)...)
		if u.State = []int64{1, 1, 1, 2, 2, 3, 4}[coins.Intn(7)]; u.State == 2 || u.State == 3 {
			u.For = coins.Int63n(3)
		}
		units = append(units, u)
	}
	return units
}

func randomNeed(coins *rand.Rand) impl.Need {
	return needOf(coins.Int63n(3), coins.Int63n(8), randomAntigens(coins, 3)...)
}

// spoilBank makes one number of it some other one.
func spoilBank(coins *rand.Rand, units []impl.Unit) {
	if len(units) == 0 {
		return
	}
	wild := []int64{math.MinInt64, -1, 0, 1, 2, 3, 4, 5, 8, 20, 1000, 1000001, 10000001, math.MaxInt64}
	u := &units[coins.Intn(len(units))]
	fields := []*int64{&u.Id, &u.Group, &u.Until, &u.State, &u.For}
	for at := range u.Antigens {
		fields = append(fields, &u.Antigens[at])
	}
	*fields[coins.Intn(len(fields))] = wild[coins.Intn(len(wild))]
}

func TestBankOkOfManyBanks(t *testing.T) {
	coins := rand.New(rand.NewSource(121))
	answers := map[bool]int{}
	for range 40000 {
		units := randomBank(coins, 6)
		for range coins.Intn(3) {
			spoilBank(coins, units)
		}
		if coins.Intn(10) == 0 {
			slices.Reverse(units)
		}
		want := isBank(units)
		if got := impl.BankOk(units); got != want {
			t.Fatalf("BankOk(%+v) = %v", units, got)
		}
		answers[want]++
	}
	if answers[true] < 5000 || answers[false] < 5000 {
		t.Error(answers)
	}
}
