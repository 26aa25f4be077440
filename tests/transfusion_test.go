package tests

import (
	"math"
	"math/rand"
	"slices"
	"testing"

	"loop.example/g00060/impl"
)

func wantedTraced(units []impl.Unit, person int64) []int64 {
	var ids []int64
	if !isBank(units) {
		return nil
	}
	for _, u := range units {
		if u.State == 3 && u.For == person {
			ids = append(ids, u.Id)
		}
	}
	slices.Sort(ids)
	return ids
}

func checkTraced(t *testing.T, what string, units []impl.Unit, person int64, want ...int64) {
	t.Helper()
	if got := impl.TraceUnits(units, person); !slices.Equal(got, want) {
		t.Errorf("%s: TraceUnits(%+v, %d) = %v, want %v", what, units, person, got, want)
	}
	if told := wantedTraced(units, person); !slices.Equal(told, want) {
		t.Errorf("%s: the test itself tells %v, want %v", what, told, want)
	}
}

func TestTraceUnits(t *testing.T) {
	units := []impl.Unit{
		{Id: 1, Until: 10, State: 3, For: 9}, {Id: 2, Until: 10, State: 2, For: 9}, {Id: 3, Until: 10, State: 3, For: 8}, {Id: 4, Until: 5, State: 4, For: -1},
		{Id: 5, Until: 10, State: 1, For: -1}, {Id: 6, Group: 7, Antigens: []int64{1}, Until: 0, State: 3, For: 9}, {Id: 7, Until: 10, State: 2, For: 7}, {Id: 8, Until: 10, State: 3, For: 0}, {Id: 1000000, Until: 10, State: 3, For: 9},
	}
	checkTraced(t, "given, and kept", units, 9, 1, 6, 1000000)
	checkTraced(t, "given to another", units, 8, 3)
	checkTraced(t, "given to the first of all persons", units, 0, 8)
	checkTraced(t, "kept alone", units, 7)
	checkTraced(t, "none", units, 6)
	checkTraced(t, "the last of all persons", units, 999)
	for _, person := range []int64{math.MinInt64, -2, -1, 1000, math.MaxInt64} {
		checkTraced(t, "no person", units, person)
	}
	for _, person := range []int64{-1, 0, 9} {
		checkTraced(t, "no units", nil, person)
		checkTraced(t, "free and gone alone", units[3:5], person)
	}
	wrong := append(anewUnits(units), unitOf(1000001, 0, 10))
	for _, person := range []int64{-1, 0, 8, 9} {
		checkTraced(t, "no bank", wrong, person)
	}
	full := unitsTo(301)
	for at := range full {
		full[at].State, full[at].For = 3, 999
	}
	checkTraced(t, "a full bank", full[:300], 999, idsOfUnits(full[:300])...)
	checkTraced(t, "one unit too many", full, 999)
}

func TestTracesOfManyBanks(t *testing.T) {
	coins := rand.New(rand.NewSource(125))
	traced := 0
	for range 20000 {
		units := randomBank(coins, 12)
		if coins.Intn(10) == 0 {
			spoilBank(coins, units)
		}
		for person := int64(-1); person <= 3; person++ {
			got := impl.TraceUnits(units, person)
			if !slices.Equal(got, wantedTraced(units, person)) {
				t.Fatalf("TraceUnits(%+v, %d) = %v", units, person, got)
			}
			traced += len(got)
		}
	}
	if traced < 5000 {
		t.Error(traced)
	}
}

// checkDeedOnBank looks at the banks ahead of and behind a deed, and asks for promise 15 of what came.
func checkDeedOnBank(t *testing.T, units []impl.Unit, n impl.Need, a impl.Do) ([]impl.Unit, int64) {
	t.Helper()
	next, code := impl.BloodDo(units, n, a)
	if !impl.BankOk(next) || !isBank(next) {
		t.Fatalf("%+v became %+v by %+v", units, next, a)
	}
	if code != 0 {
		if !sameUnits(next, units) {
			t.Fatalf("refused with %d, but %+v became %+v", code, units, next)
		}
		return next, code
	}
	if len(next) != len(units) {
		t.Fatalf("%+v became %+v by %+v", units, next, a)
	}
	for at, u := range units {
		if u.Id != a.Id && !sameUnit(u, next[at]) {
			t.Fatalf("%+v became %+v by %+v", u, next[at], a)
		}
		same := next[at]
		same.State, same.For = u.State, u.For
		if !sameUnit(u, same) {
			t.Fatalf("%+v became %+v by %+v", u, next[at], a)
		}
	}
	if a.Kind == 1 || a.Kind == 3 {
		u := units[unitAt(units, a.Id)]
		if !impl.Fits(u, n) || !wantedFits(u, n) || u.Until < a.Time {
			t.Fatalf("%+v goes to %+v at %d", u, n, a.Time)
		}
	}
	return next, code
}

// checkAllTraced holds what is traced against who had which unit.
func checkAllTraced(t *testing.T, units []impl.Unit, given map[int64]int64) {
	t.Helper()
	traced := map[int64]int64{}
	for person := int64(0); person < 3; person++ {
		ids := impl.TraceUnits(units, person)
		if !slices.IsSorted(ids) {
			t.Fatal(ids)
		}
		for _, id := range ids {
			if _, twice := traced[id]; twice || given[id] != person {
				t.Fatalf("unit %d is traced to %d, but was given to %d", id, person, given[id])
			}
			traced[id] = person
		}
	}
	if len(traced) != len(given) {
		t.Fatalf("%v were given, %v are traced", given, traced)
	}
}

// Promise 15: a bank stays one, whatever the deeds; a unit is given once, and traced.
func TestABankStaysOneAndAUnitIsGivenOnce(t *testing.T) {
	coins := rand.New(rand.NewSource(126))
	done, all := [5]int{}, 0
	for range 300 {
		units := randomBank(coins, 25)
		given := map[int64]int64{}
		for at := range units {
			if coins.Intn(5) > 0 {
				units[at].State, units[at].For = 1, -1
			} else if units[at].State == 3 {
				given[units[at].Id] = units[at].For
			}
		}
		for range 200 {
			n, a := randomNeed(coins), randomDo(coins, units)
			if at := unitAt(units, a.Id); at >= 0 && units[at].State == 2 && coins.Intn(2) > 0 {
				n.Person = units[at].For
			}
			if a.Kind == 4 && coins.Intn(10) > 0 { // else too few are left to be given
				a.Kind = 3
			}
			if coins.Intn(2) == 0 {
				n.Group, n.Against = 7, nil
			}
			next, code := checkDeedOnBank(t, units, n, a)
			if code == 0 {
				done[a.Kind]++
			}
			if code == 0 && a.Kind == 3 {
				if who, twice := given[a.Id]; twice {
					t.Fatalf("unit %d was given to %d already", a.Id, who)
				}
				given[a.Id] = n.Person
				all++
			}
			units = next
			checkAllTraced(t, units, given)
		}
	}
	if slices.Min(done[1:]) < 300 || all < 300 {
		t.Error("too few were done:", done, all)
	}
}

// Promise 15, where each unit is asked for again and again, by all: once it was given none of the deeds is for it.
func TestAGivenUnitStaysGiven(t *testing.T) {
	units := []impl.Unit{unitOf(1, 0, 100), unitOf(2, 0, 100)}
	units, _ = checkDeedOnBank(t, units, needOf(1, 7), doOf(1, 1, 50))
	units, _ = checkDeedOnBank(t, units, needOf(1, 7), doOf(3, 1, 50))
	for kind := int64(1); kind <= 4; kind++ {
		for person := int64(0); person <= 3; person++ {
			for _, time := range []int64{0, 50, 100, 101} {
				if _, code := checkDeedOnBank(t, units, needOf(person, 7), doOf(kind, 1, time)); code != 4 {
					t.Errorf("deed %d for %d at %d: %d", kind, person, time, code)
				}
			}
		}
	}
	checkAllTraced(t, units, map[int64]int64{1: 1})
}

// A full bank, all of which is kept and given by deeds.
func TestAFullBankIsGiven(t *testing.T) {
	units := unitsTo(300)
	given := map[int64]int64{}
	for at := range int64(300) {
		id := (at*37)%300*2 + 2
		n := needOf(at%3, 4)
		for _, kind := range []int64{1, 3} {
			next, code := checkDeedOnBank(t, units, n, doOf(kind, id, 100))
			if code != 0 {
				t.Fatal(code)
			}
			units = next
		}
		given[id] = n.Person
	}
	checkAllTraced(t, units, given)
	if ids := impl.Pick(units, needOf(1, 4), 0, 100); len(given) != 300 || len(ids) != 0 {
		t.Fatal(len(given), ids)
	}
}

// bankWithRoom is a bank with spare room behind its lists, and a look at all of it.
func bankWithRoom(units []impl.Unit) ([]impl.Unit, func() []impl.Unit) {
	room := append(anewUnits(units), unitOf(777777, 7, 7), unitOf(888888, 0, 8))
	for at := range room {
		room[at].Antigens = append(slices.Clone(room[at].Antigens), 55555, 66666)[:len(room[at].Antigens)]
	}
	return room[:len(units)], func() []impl.Unit {
		all := slices.Clone(room)
		for at := range all {
			all[at].Antigens = slices.Clone(room[at].Antigens[:len(room[at].Antigens)+2])
		}
		return all
	}
}

// spoilUnits writes into all that an answer has, and into the room behind it.
func spoilUnits(units []impl.Unit) {
	for _, u := range units {
		antigens := u.Antigens[:cap(u.Antigens)]
		for at := range antigens {
			antigens[at] = -9
		}
	}
	units = units[:cap(units)]
	for at := range units {
		units[at] = impl.Unit{Id: -9}
	}
}

func TestBanksStayAndAnswersAreNewMemory(t *testing.T) {
	wrong := aBank()
	wrong[6].Until = -1
	for _, bank := range [][]impl.Unit{aBank(), wrong, nil, aBank()[:1], aBank()[:0]} {
		for kind := int64(0); kind <= 5; kind++ {
			for _, id := range []int64{0, 10, 11, 20, 30, 40, 50, 60, 70} {
				units, look := bankWithRoom(bank)
				against := []int64{1, 2, 8, 9}
				n, before := needOf(9, 5), look()
				n.Against = against[:2]
				impl.BankOk(units)
				for _, u := range units {
					impl.Fits(u, n)
				}
				got, _ := impl.BloodDo(units, n, doOf(kind, id, 50))
				keptBank := anewUnits(got)
				other, _ := impl.BloodDo(units, n, doOf(kind, id, 50))
				spoilUnits(other)
				picked, traced := impl.Pick(units, n, 0, 9), impl.TraceUnits(units, 9)
				keptPicked, keptTraced := slices.Clone(picked), slices.Clone(traced)
				for _, ids := range [][]int64{impl.Pick(units, n, 0, 9), impl.TraceUnits(units, 9)} {
					clear(ids[:cap(ids)])
				}
				if !sameUnits(look(), before) || !slices.Equal(against, []int64{1, 2, 8, 9}) {
					t.Fatalf("deed %d of %d: an argument was written into, or shares memory with an answer", kind, id)
				}
				if !sameUnits(got, keptBank) || !slices.Equal(picked, keptPicked) || !slices.Equal(traced, keptTraced) {
					t.Fatalf("deed %d of %d: two answers share memory", kind, id)
				}
			}
		}
	}
}

// The lists of antigens of one answer have each its own memory, and room.
func TestAntigensOfAnAnswerAreApart(t *testing.T) {
	shared := []int64{1, 2, 3}
	units := []impl.Unit{unitOf(1, 0, 100), unitOf(2, 0, 100), unitOf(3, 0, 100)}
	for at := range units {
		units[at].Antigens = shared[:at+1]
	}
	for _, a := range []impl.Do{doOf(1, 2, 50), doOf(4, 1, 50), doOf(2, 1, 50), doOf(1, 9, 50), doOf(0, 0, 0)} {
		next, _ := impl.BloodDo(units, needOf(9, 7), a)
		for at := range next {
			kept := anewUnits(next)
			one := append(next[at].Antigens, 17)
			one[0] = 18
			next[at].Antigens, kept[at].Antigens = one, one
			if !sameUnits(next, kept) || !slices.Equal(shared, []int64{1, 2, 3}) {
				t.Fatalf("%+v: lists of one answer share memory", a)
			}
		}
	}
}
