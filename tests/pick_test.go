package tests

import (
	"math"
	"math/rand"
	"slices"
	"testing"

	"loop.example/g00060/impl"
)

// wantedPick lays the units on three heaps, and takes from the first that has one what goes first there, as long as some are asked for.
func wantedPick(units []impl.Unit, n impl.Need, time, count int64) []int64 {
	if !isBank(units) || !isNeed(n) || !within(time, 0, 10000000) || !within(count, 0, 100) {
		return nil
	}
	var own, others, last []impl.Unit
	for _, u := range units {
		switch {
		case u.State != 1 || u.Until < time || !wantedFits(u, n):
		case u.Group == n.Group:
			own = append(own, u)
		case n.Group >= 4 && u.Group < 4:
			last = append(last, u)
		default:
			others = append(others, u)
		}
	}
	var ids []int64
	for _, heap := range [][]impl.Unit{own, others, last} {
		for ; len(heap) > 0 && int64(len(ids)) < count; heap = heap[1:] {
			for at := range heap { // of the same Until the one ahead, as Ids rise
				if heap[at].Until < heap[0].Until {
					first := heap[at]
					copy(heap[1:at+1], heap[:at])
					heap[0] = first
				}
			}
			ids = append(ids, heap[0].Id)
		}
	}
	return ids
}

func checkPick(t *testing.T, what string, units []impl.Unit, n impl.Need, time, count int64, want ...int64) {
	t.Helper()
	if got := impl.Pick(units, n, time, count); !slices.Equal(got, want) {
		t.Errorf("%s: Pick(%+v, %+v, %d, %d) = %v, want %v", what, units, n, time, count, got, want)
	}
	if told := wantedPick(units, n, time, count); !slices.Equal(told, want) {
		t.Errorf("%s: the test itself tells %v, want %v", what, told, want)
	}
}

// allGroups is a unit of each group: Ids 10 to 17, the later ones the sooner to end.
func allGroups() []impl.Unit {
	var units []impl.Unit
	for group := int64(0); group <= 7; group++ {
		units = append(units, unitOf(10+group, group, 100-group))
	}
	return units
}

func TestPickByGroups(t *testing.T) {
	for group, want := range map[int64][]int64{
		0: {10}, 1: {11, 10}, 2: {12, 10}, 3: {13, 12, 11, 10},
		4: {14, 10}, 5: {15, 14, 11, 10}, 6: {16, 14, 12, 10}, 7: {17, 16, 15, 14, 13, 12, 11, 10},
	} {
		checkPick(t, groupNames[group], allGroups(), needOf(9, group), 50, 100, want...)
	}
	// The other way round in time: the ranks stay, and among such it is the other way round.
	turned := allGroups()
	for at := range turned {
		turned[at].Until = 100 + turned[at].Group
	}
	for group, want := range map[int64][]int64{
		0: {10}, 1: {11, 10}, 2: {12, 10}, 3: {13, 10, 11, 12},
		4: {14, 10}, 5: {15, 14, 10, 11}, 6: {16, 14, 10, 12}, 7: {17, 14, 15, 16, 10, 11, 12, 13},
	} {
		checkPick(t, groupNames[group]+", turned", turned, needOf(9, group), 50, 100, want...)
	}
}

func TestPickOwnGroupAheadOfWhatEndsSooner(t *testing.T) {
	units := []impl.Unit{unitOf(1, 0, 50), unitOf(2, 1, 60), unitOf(3, 4, 70), unitOf(4, 5, 99), unitOf(5, 5, 80), unitOf(6, 4, 69), unitOf(7, 0, 51), unitOf(8, 1, 50)}
	checkPick(t, "a positive person", units, needOf(9, 5), 50, 100, 5, 4, 6, 3, 1, 8, 7, 2)
	checkPick(t, "a negative person", units, needOf(9, 1), 50, 100, 8, 2, 1, 7)
	checkPick(t, "O negative", units, needOf(9, 0), 50, 100, 1, 7)
	checkPick(t, "O positive", units, needOf(9, 4), 50, 100, 6, 3, 1, 7)
	checkPick(t, "AB negative, with none of the own group", units, needOf(9, 3), 50, 100, 1, 8, 7, 2)
	checkPick(t, "AB positive, with none of the own group", units, needOf(9, 7), 50, 100, 6, 3, 5, 4, 1, 8, 7, 2)
}

func TestPickByUntil(t *testing.T) {
	units := []impl.Unit{unitOf(1, 0, 49), unitOf(2, 0, 51), unitOf(3, 0, 50), unitOf(4, 0, 51), unitOf(5, 0, 50), unitOf(6, 0, 0), unitOf(7, 0, 10000000)}
	for time, want := range map[int64][]int64{
		0: {6, 1, 3, 5, 2, 4, 7}, 1: {1, 3, 5, 2, 4, 7}, 49: {1, 3, 5, 2, 4, 7}, 50: {3, 5, 2, 4, 7}, 51: {2, 4, 7}, 52: {7}, 9999999: {7}, 10000000: {7},
		-1: nil, 10000001: nil, math.MinInt64: nil, math.MaxInt64: nil,
	} {
		checkPick(t, "Until", units, needOf(9, 0), time, 100, want...)
		checkPick(t, "Until, of another group", units, needOf(9, 7), time, 100, want...)
	}
}

func TestPickTheSameUntilById(t *testing.T) {
	var units []impl.Unit
	var ids []int64
	for at := int64(0); at < 90; at++ {
		units = append(units, unitOf(1+at*11111, 6, 77))
		ids = append(ids, 1+at*11111)
	}
	checkPick(t, "all alike", units, needOf(9, 6), 77, 100, ids...)
	checkPick(t, "all alike, for another", units, needOf(9, 7), 77, 100, ids...)
	checkPick(t, "some alike", units, needOf(9, 6), 77, 10, ids[:10]...)
	units[89].Until, units[45].Until = 78, 78
	last := slices.Delete(slices.Clone(ids), 45, 46)
	checkPick(t, "two that end later", units, needOf(9, 6), 77, 100, append(last[:88:88], ids[45], ids[89])...)
}

func TestPickOnlyWhatIsFree(t *testing.T) {
	for _, r := range []struct {
		state, person int64
		there         bool
	}{{1, -1, true}, {2, 9, false}, {2, 8, false}, {3, 9, false}, {3, 8, false}, {4, -1, false}} {
		units := []impl.Unit{unitOf(1, 5, 100), {Id: 2, Group: 5, Until: 90, State: r.state, For: r.person}, unitOf(3, 5, 95)}
		want := []int64{3, 1}
		if r.there {
			want = []int64{2, 3, 1}
		}
		checkPick(t, "states", units, needOf(9, 5), 50, 100, want...)
		checkPick(t, "that one alone", units[1:2], needOf(9, 5), 50, 100, want[:len(want)-2]...)
	}
}

func TestPickOnlyWhatFits(t *testing.T) {
	units := []impl.Unit{unitOf(1, 5, 90, 6), unitOf(2, 5, 91), unitOf(3, 5, 92, 5, 7), unitOf(4, 5, 93, 0, 6, 19), unitOf(5, 4, 94, 6), unitOf(6, 4, 95, 19), unitOf(7, 6, 96)}
	checkPick(t, "against none", units, needOf(9, 5), 50, 100, 1, 2, 3, 4, 5, 6)
	checkPick(t, "against 6", units, needOf(9, 5, 6), 50, 100, 2, 3, 6)
	checkPick(t, "against 6 and 19", units, needOf(9, 5, 6, 19), 50, 100, 2, 3)
	checkPick(t, "against all", units, needOf(9, 5, numbersTo(20)...), 50, 100, 2)
	checkPick(t, "against others", units, needOf(9, 5, 1, 2, 3, 4, 8), 50, 100, 1, 2, 3, 4, 5, 6)
	checkPick(t, "none fits", units, needOf(9, 0), 50, 100)
	checkPick(t, "the first one does not count", units, needOf(9, 5, 6), 50, 1, 2)
}

func TestPickCounts(t *testing.T) {
	units := []impl.Unit{unitOf(1, 4, 90), unitOf(2, 5, 90), unitOf(3, 0, 90), unitOf(4, 5, 80), unitOf(5, 1, 80)}
	ids := []int64{4, 2, 1, 5, 3}
	for _, count := range []int64{math.MinInt64, -100, -1, 101, 102, math.MaxInt64} {
		checkPick(t, "out of range", units, needOf(9, 5), 50, count)
	}
	for count := int64(0); count <= 100; count++ {
		checkPick(t, "in range", units, needOf(9, 5), 50, count, ids[:min(count, 5)]...)
		checkPick(t, "no units", nil, needOf(9, 5), 50, count)
	}
	full := unitsTo(300)
	for _, count := range []int64{0, 1, 99, 100} {
		checkPick(t, "a full bank", full, needOf(9, 0), 50, count, idsOfUnits(full[:count])...)
	}
	checkPick(t, "a full bank, one more than MaxPick", full, needOf(9, 0), 50, 101)
	checkPick(t, "just MaxPick", unitsTo(100), needOf(9, 0), 50, 100, idsOfUnits(unitsTo(100))...)
	checkPick(t, "one below MaxPick", unitsTo(99), needOf(9, 0), 50, 100, idsOfUnits(unitsTo(99))...)
	for at := range full {
		full[at].Until = int64(1000 - at)
	}
	slices.Reverse(full)
	want := idsOfUnits(full[:100])
	slices.Reverse(full)
	checkPick(t, "a full bank, the last ones end first", full, needOf(9, 4), 50, 100, want...)
}

func idsOfUnits(units []impl.Unit) []int64 {
	var ids []int64
	for _, u := range units {
		ids = append(ids, u.Id)
	}
	return ids
}

func TestPickForWhatIsNoNeed(t *testing.T) {
	units := []impl.Unit{unitOf(1, 0, 100), unitOf(2, 0, 100)}
	for _, c := range needCases() {
		var want []int64
		if c.right {
			want = []int64{1, 2}
		}
		checkPick(t, c.what, units, needAs(c.change), 50, 100, want...)
	}
}

func TestPickOfManyBanks(t *testing.T) {
	coins := rand.New(rand.NewSource(122))
	picked, ranks := 0, [3]int{}
	for range 30000 {
		units, n := randomBank(coins, 20), randomNeed(coins)
		if coins.Intn(20) == 0 {
			spoilBank(coins, units)
		}
		time, count := coins.Int63n(12), coins.Int63n(10)
		got := impl.Pick(units, n, time, count)
		if want := wantedPick(anewUnits(units), n, time, count); !slices.Equal(got, want) {
			t.Fatalf("Pick(%+v, %+v, %d, %d) = %v, want %v", units, n, time, count, got, want)
		}
		for _, id := range got {
			group := units[slices.IndexFunc(units, func(u impl.Unit) bool { return u.Id == id })].Group
			switch {
			case group == n.Group:
				ranks[0]++
			case group < 4 && n.Group >= 4:
				ranks[2]++
			default:
				ranks[1]++
			}
		}
		picked += len(got)
	}
	if picked < 10000 || slices.Min(ranks[:]) < 3000 {
		t.Error(picked, ranks)
	}
}

// What is picked may all be kept, one after the other, and then given; what a greater count adds comes behind.
func TestWhatIsPickedCanBeKeptAndGiven(t *testing.T) {
	coins := rand.New(rand.NewSource(123))
	kept := 0
	for range 3000 {
		units, n := randomBank(coins, 20), randomNeed(coins)
		time := coins.Int63n(12)
		all := impl.Pick(units, n, time, 100)
		for count := range int64(len(all)) {
			if some := impl.Pick(units, n, time, count); !slices.Equal(some, all[:count]) {
				t.Fatal(all, some)
			}
		}
		before := impl.TraceUnits(units, n.Person)
		bank, code := units, int64(0)
		for _, kind := range []int64{1, 3} {
			for _, id := range all {
				if bank, code = impl.BloodDo(bank, n, impl.Do{Kind: kind, Id: id, Time: time}); code != 0 {
					t.Fatalf("%d of unit %d of %+v at %d: %d", kind, id, bank, time, code)
				}
				kept++
			}
			if again := impl.Pick(bank, n, time, 100); len(again) != 0 {
				t.Fatalf("%v are picked again", again)
			}
		}
		want := slices.Concat(before, all)
		slices.Sort(want)
		if traced := impl.TraceUnits(bank, n.Person); !slices.Equal(traced, want) {
			t.Fatalf("%v were given, %v are traced", want, traced)
		}
	}
	if kept < 3000 {
		t.Error(kept)
	}
}
