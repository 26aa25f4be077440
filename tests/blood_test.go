package tests

import (
	"math"
	"math/rand"
	"slices"
	"testing"

	"loop.example/g00060/impl"
)

func doOf(kind, id, time int64) impl.Do { return impl.Do{Kind: kind, Id: id, Time: time} }

// unitAt is the place of the first unit of that Id, or -1.
func unitAt(units []impl.Unit, id int64) int {
	return slices.IndexFunc(units, func(u impl.Unit) bool { return u.Id == id })
}

// unitStates tells for the kinds 1 to 4 the states that they are for.
var unitStates = [5][]int64{1: {1}, 2: {2}, 3: {2}, 4: {1, 2}}

// wantedBloodCodes tells all codes that apply; the least of them is named first.
func wantedBloodCodes(units []impl.Unit, n impl.Need, a impl.Do) []int64 {
	var codes []int64
	add := func(code int64, applies bool) {
		if applies {
			codes = append(codes, code)
		}
	}
	add(1, !isBank(units))
	add(2, !within(a.Kind, 1, 4) || !within(a.Id, 1, 1000000) || !within(a.Time, 0, 10000000) || !isNeed(n))
	at := unitAt(units, a.Id)
	add(3, at < 0)
	if at < 0 || !within(a.Kind, 1, 4) {
		return codes
	}
	u := units[at]
	forAnother := (a.Kind == 2 || a.Kind == 3) && u.State == 2 && u.For != n.Person
	add(4, !slices.Contains(unitStates[a.Kind], u.State) || forAnother)
	if a.Kind == 1 || a.Kind == 3 {
		add(5, u.Until < a.Time)
		add(6, !wantedFits(u, n))
	}
	return codes
}

func wantedBlood(units []impl.Unit, n impl.Need, a impl.Do) ([]impl.Unit, int64) {
	if codes := wantedBloodCodes(units, n, a); len(codes) > 0 {
		if codes[0] == 1 {
			return nil, 1
		}
		return units, codes[0]
	}
	next := anewUnits(units)
	u := &next[unitAt(units, a.Id)]
	switch a.Kind {
	case 1:
		u.State, u.For = 2, n.Person
	case 2:
		u.State, u.For = 1, -1
	case 3:
		u.State, u.For = 3, n.Person
	case 4:
		u.State, u.For = 4, -1
	}
	return next, 0
}

// checkBlood holds BloodDo against the oracle.
func checkBlood(t *testing.T, what string, units []impl.Unit, n impl.Need, a impl.Do) ([]impl.Unit, int64) {
	t.Helper()
	want, wantCode := wantedBlood(units, n, a)
	got, code := impl.BloodDo(units, n, a)
	if code != wantCode || !sameUnits(got, want) {
		t.Fatalf("%s: BloodDo(%+v, %+v, %+v) = %+v, %d, want %+v, %d", what, units, n, a, got, code, want, wantCode)
	}
	return got, code
}

func checkBloodCode(t *testing.T, what string, units []impl.Unit, n impl.Need, a impl.Do, code int64) []impl.Unit {
	t.Helper()
	next, got := checkBlood(t, what, units, n, a)
	if got != code {
		t.Errorf("%s: %+v for %+v: %d, want %d", what, a, n, got, code)
	}
	if code > 1 && !sameUnits(next, units) {
		t.Errorf("%s: refused with %d, but it became %+v", what, code, next)
	}
	return next
}

// aBank has units in each state, among them two kept for 9 and one for 8; all fit somebody of group 5 without antibodies.
func aBank() []impl.Unit {
	return []impl.Unit{
		{Id: 10, Group: 5, Antigens: []int64{6}, Until: 100, State: 1, For: -1},
		{Id: 20, Group: 1, Until: 100, State: 2, For: 9},
		{Id: 30, Group: 4, Antigens: []int64{0, 19}, Until: 90, State: 2, For: 8},
		{Id: 40, Group: 0, Until: 100, State: 3, For: 9},
		{Id: 50, Group: 5, Antigens: []int64{3}, Until: 100, State: 4, For: -1},
		{Id: 60, Group: 0, Antigens: []int64{6, 7}, Until: 100, State: 2, For: 9},
		{Id: 70, Group: 1, Until: 0, State: 1, For: -1},
	}
}

func TestAUnitFromKeepingToGiving(t *testing.T) {
	u := unitOf(5, 1, 100, 2)
	units := []impl.Unit{unitOf(4, 1, 100), u, unitOf(6, 1, 100)}
	mine, other := needOf(9, 5, 3), needOf(8, 5, 3)
	for _, step := range []struct {
		n           impl.Need
		a           impl.Do
		code        int64
		state, with int64
	}{
		{mine, doOf(2, 5, 10), 4, 1, -1}, {mine, doOf(3, 5, 10), 4, 1, -1}, {mine, doOf(1, 5, 10), 0, 2, 9},
		{mine, doOf(1, 5, 11), 4, 2, 9}, {other, doOf(1, 5, 11), 4, 2, 9}, {other, doOf(2, 5, 11), 4, 2, 9}, {other, doOf(3, 5, 11), 4, 2, 9},
		{mine, doOf(2, 5, 12), 0, 1, -1}, {mine, doOf(2, 5, 12), 4, 1, -1}, {other, doOf(1, 5, 12), 0, 2, 8}, {mine, doOf(3, 5, 12), 4, 2, 8}, {other, doOf(2, 5, 12), 0, 1, -1},
		{mine, doOf(1, 5, 13), 0, 2, 9}, {mine, doOf(3, 5, 101), 5, 2, 9}, {needOf(9, 5, 2), doOf(3, 5, 14), 6, 2, 9}, {needOf(9, 6), doOf(3, 5, 14), 6, 2, 9}, {mine, doOf(3, 5, 100), 0, 3, 9},
		{mine, doOf(3, 5, 100), 4, 3, 9}, {mine, doOf(1, 5, 100), 4, 3, 9}, {mine, doOf(2, 5, 100), 4, 3, 9}, {mine, doOf(4, 5, 100), 4, 3, 9}, {other, doOf(3, 5, 100), 4, 3, 9},
	} {
		next, code := impl.BloodDo(units, step.n, step.a)
		want := anewUnits(units)
		want[1].State, want[1].For = step.state, step.with
		if code != step.code || !sameUnits(next, want) {
			t.Fatalf("%+v: %+v, %d", step, next, code)
		}
		units = next
	}
	if ids := impl.TraceUnits(units, 9); !slices.Equal(ids, []int64{5}) {
		t.Fatal(ids)
	}
}

func TestEachDeedInEachState(t *testing.T) {
	becomes := [5][5]int64{1: {1: 2}, 2: {2: 1}, 3: {2: 3}, 4: {1: 4, 2: 4}}
	for kind := int64(1); kind <= 4; kind++ {
		for state := int64(1); state <= 4; state++ {
			for _, person := range []int64{8, 9} { // for another, and for the person
				if person == 8 && (state == 1 || state == 4) {
					continue
				}
				u := impl.Unit{Id: 20, Group: 5, Antigens: []int64{1, 2}, Until: 100, State: state, For: person}
				if state == 1 || state == 4 {
					u.For = -1
				}
				units := []impl.Unit{unitOf(10, 5, 100, 3), u, {Id: 30, Group: 5, Until: 100, State: state, For: u.For}}
				code := int64(0)
				if becomes[kind][state] == 0 || person == 8 && kind != 4 {
					code = 4
				}
				next := checkBloodCode(t, "a state", units, needOf(9, 5, 4), doOf(kind, 20, 50), code)
				want := anewUnits(units)
				if code == 0 {
					want[1].State, want[1].For = becomes[kind][state], -1
				}
				if code == 0 && (kind == 1 || kind == 3) {
					want[1].For = 9
				}
				if !sameUnits(next, want) {
					t.Errorf("deed %d in state %d: %+v", kind, state, next)
				}
			}
		}
	}
}

func TestPersonsOfDeeds(t *testing.T) {
	for _, person := range []int64{0, 1, 500, 998, 999} {
		units := []impl.Unit{unitOf(20, 5, 100), {Id: 30, Group: 5, Until: 100, State: 2, For: person}}
		if next := checkBloodCode(t, "keep", units, needOf(person, 5), doOf(1, 20, 50), 0); next[0].State != 2 || next[0].For != person {
			t.Errorf("%+v", next)
		}
		if next := checkBloodCode(t, "give", units, needOf(person, 5), doOf(3, 30, 50), 0); next[1].State != 3 || next[1].For != person {
			t.Errorf("%+v", next)
		}
		if next := checkBloodCode(t, "back", units, needOf(person, 5), doOf(2, 30, 50), 0); next[1].State != 1 || next[1].For != -1 {
			t.Errorf("%+v", next)
		}
		for _, other := range []int64{0, 2, 999} {
			if other == person {
				continue
			}
			checkBloodCode(t, "give to another", units, needOf(other, 5), doOf(3, 30, 50), 4)
			checkBloodCode(t, "back from another", units, needOf(other, 5), doOf(2, 30, 50), 4)
			if next := checkBloodCode(t, "throw what is kept for another", units, needOf(other, 5), doOf(4, 30, 50), 0); next[1].State != 4 || next[1].For != -1 {
				t.Errorf("%+v", next)
			}
		}
	}
}

func TestKindsOfBloodDeeds(t *testing.T) {
	for _, kind := range []int64{math.MinInt64, -1, 0, 5, 6, math.MaxInt64} {
		for _, id := range []int64{10, 20, 30, 40, 50, 11, 0} {
			checkBloodCode(t, "no kind", aBank(), needOf(9, 5), doOf(kind, id, 50), 2)
		}
		checkBloodCode(t, "no kind, no units", nil, needOf(9, 5), doOf(kind, 10, 50), 2)
	}
	checkBloodCode(t, "the zero deed", aBank(), needOf(9, 5), impl.Do{}, 2)
}

func TestIdsOfBloodDeeds(t *testing.T) {
	units := []impl.Unit{unitOf(1, 0, 100), {Id: 50, Group: 0, Until: 100, State: 2, For: 9}, unitOf(1000000, 0, 100)}
	for kind := int64(1); kind <= 4; kind++ {
		for id, code := range map[int64]int64{math.MinInt64: 2, -1: 2, 0: 2, 2: 3, 49: 3, 51: 3, 999999: 3, 1000001: 2, math.MaxInt64: 2} {
			checkBloodCode(t, "Id", units, needOf(9, 0), doOf(kind, id, 50), code)
		}
		for id, code := range map[int64]int64{0: 2, 1: 3, 50: 3, 1000000: 3, 1000001: 2} {
			checkBloodCode(t, "no units", nil, needOf(9, 0), doOf(kind, id, 50), code)
		}
	}
	for _, id := range []int64{1, 1000000} {
		checkBloodCode(t, "the Id of a unit", units, needOf(9, 0), doOf(1, id, 50), 0)
	}
	for _, id := range []int64{1, 50, 1000000} {
		checkBloodCode(t, "the Id of a unit", units, needOf(9, 0), doOf(4, id, 50), 0)
	}
}

func TestTimesOfBloodDeeds(t *testing.T) {
	for _, until := range []int64{0, 1, 50, 9999999, 10000000} {
		units := []impl.Unit{unitOf(10, 0, until), {Id: 20, Group: 0, Until: until, State: 2, For: 9}}
		for _, time := range []int64{math.MinInt64, -1, 0, 1, 2, 49, 50, 51, 9999998, 9999999, 10000000, 10000001, math.MaxInt64} {
			code, old := int64(0), int64(0)
			if time > until {
				old = 5
			}
			if !within(time, 0, 10000000) {
				code, old = 2, 2
			}
			checkBloodCode(t, "keep", units, needOf(9, 0), doOf(1, 10, time), old)
			checkBloodCode(t, "back", units, needOf(9, 0), doOf(2, 20, time), code)
			checkBloodCode(t, "give", units, needOf(9, 0), doOf(3, 20, time), old)
			checkBloodCode(t, "throw", units, needOf(9, 0), doOf(4, 10, time), code)
			checkBloodCode(t, "throw what is kept", units, needOf(9, 0), doOf(4, 20, time), code)
		}
	}
}

// What is given back or thrown need not fit, nor be in its time; but each deed wants a need that is as told.
func TestNeedsOfBloodDeeds(t *testing.T) {
	units := []impl.Unit{unitOf(10, 0, 100), {Id: 20, Group: 0, Until: 100, State: 2, For: 9}}
	for _, c := range needCases() {
		n := needAs(c.change)
		code, kept := int64(2), int64(2)
		if c.right {
			code, kept = 0, 0
		}
		if c.right && n.Person != 9 {
			kept = 4
		}
		checkBloodCode(t, c.what, units, n, doOf(1, 10, 50), code)
		checkBloodCode(t, c.what, units, n, doOf(2, 20, 50), kept)
		checkBloodCode(t, c.what, units, n, doOf(3, 20, 50), kept)
		checkBloodCode(t, c.what, units, n, doOf(4, 10, 50), code)
		checkBloodCode(t, c.what, units, n, doOf(4, 20, 50), code)
	}
	unfit := []impl.Unit{unitOf(10, 7, 100, 3), {Id: 20, Group: 7, Antigens: []int64{3}, Until: 100, State: 2, For: 9}}
	for _, n := range []impl.Need{needOf(9, 0), needOf(9, 3), needOf(9, 7, 3), needOf(9, 6, 3)} {
		checkBloodCode(t, "keep", unfit, n, doOf(1, 10, 50), 6)
		checkBloodCode(t, "back", unfit, n, doOf(2, 20, 50), 0)
		checkBloodCode(t, "give", unfit, n, doOf(3, 20, 50), 6)
		checkBloodCode(t, "throw", unfit, n, doOf(4, 10, 50), 0)
		checkBloodCode(t, "throw what is kept", unfit, n, doOf(4, 20, 50), 0)
	}
}

// Each code in a deed to which it alone applies.
func TestEachCodeOfABloodDeedAlone(t *testing.T) {
	bank := aBank()
	wrong := anewUnits(bank)
	wrong[6].Group = 8
	n := needOf(9, 5)
	for _, r := range []struct {
		units []impl.Unit
		n     impl.Need
		a     impl.Do
		code  int64
	}{
		{bank, n, doOf(1, 10, 50), 0}, {bank, n, doOf(2, 20, 50), 0}, {bank, n, doOf(3, 20, 50), 0}, {bank, n, doOf(4, 10, 50), 0}, {bank, n, doOf(4, 20, 50), 0}, {bank, n, doOf(4, 30, 50), 0}, {bank, n, doOf(4, 70, 50), 0},
		{wrong, n, doOf(1, 10, 50), 1}, {wrong, n, doOf(2, 20, 50), 1}, {wrong, n, doOf(3, 20, 50), 1}, {wrong, n, doOf(4, 10, 50), 1},
		{bank, n, doOf(0, 10, 50), 2}, {bank, n, doOf(5, 10, 50), 2}, {bank, n, doOf(2, 20, -1), 2}, {bank, needOf(9, 5, 20), doOf(2, 20, 50), 2}, {bank, needOf(-1, 5), doOf(4, 10, 50), 2},
		{bank, n, doOf(1, 11, 50), 3}, {bank, n, doOf(2, 1, 50), 3}, {bank, n, doOf(3, 71, 50), 3}, {bank, n, doOf(4, 1000000, 50), 3},
		{bank, n, doOf(1, 20, 50), 4}, {bank, n, doOf(1, 30, 50), 4}, {bank, n, doOf(1, 40, 50), 4}, {bank, n, doOf(1, 50, 50), 4},
		{bank, n, doOf(2, 10, 50), 4}, {bank, n, doOf(2, 30, 50), 4}, {bank, n, doOf(2, 40, 50), 4}, {bank, n, doOf(2, 50, 50), 4},
		{bank, n, doOf(3, 10, 50), 4}, {bank, n, doOf(3, 30, 50), 4}, {bank, n, doOf(3, 40, 50), 4}, {bank, n, doOf(3, 50, 50), 4},
		{bank, n, doOf(4, 40, 50), 4}, {bank, n, doOf(4, 50, 50), 4},
		{bank, n, doOf(1, 70, 1), 5}, {bank, n, doOf(1, 10, 101), 5}, {bank, n, doOf(3, 20, 101), 5},
		{bank, needOf(9, 5, 6), doOf(1, 10, 50), 6}, {bank, needOf(9, 4), doOf(1, 10, 50), 6}, {bank, needOf(9, 2), doOf(3, 20, 50), 6}, {bank, needOf(9, 5, 7), doOf(3, 60, 50), 6},
	} {
		checkBloodCode(t, "alone", r.units, r.n, r.a, r.code)
		if codes := wantedBloodCodes(r.units, r.n, r.a); r.code != 0 && !slices.Equal(codes, []int64{r.code}) {
			t.Errorf("%+v: %v apply", r.a, codes)
		}
	}
}

// chosenBlood is a deed of that kind to which just the chosen codes apply (bit 5 stands for code 5), as far as they can be told together.
func chosenBlood(kind int64, chosen int) ([]impl.Unit, impl.Need, impl.Do) {
	units, n, a := []impl.Unit{unitOf(1, 0, 100), unitOf(5, 1, 100, 7), unitOf(9, 0, 100)}, needOf(9, 5, 3), doOf(kind, 5, 50)
	if kind == 2 || kind == 3 {
		units[1].State, units[1].For = 2, 9
	}
	for code, apply := range map[int]func(){
		1: func() { units[2].Until = -1 },
		2: func() { n.Person = -1 },
		3: func() { a.Id = 6 },
		4: func() { units[1].State, units[1].For = 3, 9 },
		5: func() { a.Time = 101 },
		6: func() { n.Against = []int64{3, 7} },
	} {
		if chosen>>code&1 == 1 {
			apply()
		}
	}
	return units, n, a
}

func TestWhichCodeOfABloodDeedComesFirst(t *testing.T) {
	for kind := int64(1); kind <= 4; kind++ {
		for chosen := 0; chosen < 1<<7; chosen += 2 {
			want := int64(0)
			for code := int64(6); code >= 1; code-- {
				if chosen>>code&1 == 1 && (code < 5 || kind == 1 || kind == 3) {
					want = code
				}
			}
			units, n, a := chosenBlood(kind, chosen)
			checkBloodCode(t, "some codes", units, n, a, want)
		}
	}
	// What BlDeed is told of, by each of its causes, ahead of all that is behind.
	for _, r := range []struct {
		n impl.Need
		a impl.Do
	}{{needOf(9, 0), doOf(7, 11, 101)}, {needOf(9, 0), doOf(1, 0, 101)}, {needOf(9, 0), doOf(1, 11, 10000001)}, {needOf(9, 8), doOf(3, 11, 101)}, {needOf(1000, 0), doOf(3, 40, 101)}, {needOf(9, 5, 6, 6), doOf(1, 10, 101)}} {
		checkBloodCode(t, "BlDeed first", aBank(), r.n, r.a, 2)
	}
}

// All deeds of a small world, of a bank of it.
func TestAllSmallBloodDeeds(t *testing.T) {
	bank := aBank()
	for kind := int64(0); kind <= 5; kind++ {
		for _, id := range []int64{0, 5, 10, 20, 30, 40, 50, 60, 70, 1000001} {
			for _, person := range []int64{-1, 8, 9} {
				for group := int64(-1); group <= 8; group++ {
					for _, against := range [][]int64{nil, {6}, {0}, {7, 19}, {20}, {2, 1}} {
						for _, time := range []int64{-1, 0, 1, 90, 91, 100, 101, 10000001} {
							checkBlood(t, "small", bank, needOf(person, group, against...), doOf(kind, id, time))
						}
					}
				}
			}
		}
	}
}

// randomDo is often one that the bank takes.
func randomDo(coins *rand.Rand, units []impl.Unit) impl.Do {
	a := doOf(1+coins.Int63n(4), 1+coins.Int63n(20), coins.Int63n(12))
	if len(units) > 0 && coins.Intn(6) > 0 {
		a.Id = units[coins.Intn(len(units))].Id
	}
	if coins.Intn(20) == 0 {
		wild := []int64{math.MinInt64, -1, 0, 5, 1000001, 10000001, math.MaxInt64}
		*[]*int64{&a.Kind, &a.Id, &a.Time}[coins.Intn(3)] = wild[coins.Intn(len(wild))]
	}
	return a
}

func TestBloodDeedsOfManyBanks(t *testing.T) {
	coins := rand.New(rand.NewSource(124))
	seen := [7]int{}
	for range 60000 {
		units, n := randomBank(coins, 8), randomNeed(coins)
		if coins.Intn(30) == 0 {
			spoilBank(coins, units)
		}
		if coins.Intn(30) == 0 {
			slices.Reverse(n.Against)
		}
		a := randomDo(coins, units)
		if at := unitAt(units, a.Id); at >= 0 && units[at].State == 2 && coins.Intn(3) > 0 {
			n.Person = units[at].For
		}
		_, code := checkBlood(t, "random", units, n, a)
		seen[code]++
	}
	if slices.Min(seen[:]) < 300 {
		t.Error("too few of a code:", seen)
	}
}
