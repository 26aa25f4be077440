package tests

import (
	"math"
	"math/rand"
	"slices"
	"testing"

	"loop.example/g00060/impl"
)

// wantedInsert goes by the document's words, and finds the times minute after minute.
func wantedInsert(ops []impl.Op, urgent impl.Op, rest int64) ([]impl.Op, int64, bool) {
	if !areOps(ops) || !isOp(urgent) || !within(rest, 0, 1440) || len(ops) >= 200 || len(wantedClashes(ops, rest)) > 0 {
		return nil, 0, false
	}
	list := append(anewOps(ops), urgent)
	isOut := make([]bool, len(list))
	for at, op := range ops {
		isOut[at] = wantedWhy(op, urgent, rest) != 0
	}
	sum := int64(0)
	for at, op := range ops {
		if !isOut[at] {
			continue
		}
		var others []impl.Op
		for other := range list {
			if !isOut[other] {
				others = append(others, list[other])
			}
		}
		from := earliestByMinutes(others, op, rest)
		if from < 0 {
			return nil, 0, false
		}
		sum += from - op.From
		list[at] = begunAt(op, from)
		isOut[at] = false
	}
	return list, sum, true
}

func checkInsert(t *testing.T, ops []impl.Op, urgent impl.Op, rest int64) {
	t.Helper()
	list, later, is := impl.Insert(ops, urgent, rest)
	want, sum, should := wantedInsert(ops, urgent, rest)
	if !sameOps(list, want) || later != sum || is != should {
		t.Fatalf("Insert(%v, %v, %d) = %v, %d, %v, want %v, %d, %v", ops, urgent, rest, list, later, is, want, sum, should)
	}
}

// opsWithoutClash leaves out what clashes with one ahead.
func opsWithoutClash(ops []impl.Op, rest int64) []impl.Op {
	var list []impl.Op
	for _, op := range ops {
		if clashesWithNone(op, list, rest) {
			list = append(list, op)
		}
	}
	return list
}

func TestInsert(t *testing.T) {
	cases := []struct {
		what   string
		ops    []impl.Op
		urgent impl.Op
		rest   int64
		begins []int64
		later  int64
	}{
		{"none there", nil, opOf(1, 30, 40, 1), 30, nil, 0},
		{"an empty list", []impl.Op{}, opOf(1, 0, 10000000, 1), 30, nil, 0},
		{"nothing clashes", []impl.Op{opOf(1, 0, 60, 1), opOf(2, 0, 60, 2)}, opOf(3, 0, 60, 3), 30, []int64{0, 0}, 0},
		{"touching in the room", []impl.Op{opOf(1, 0, 60, 1), opOf(1, 100, 160, 1)}, opOf(1, 60, 100, 3), 30, []int64{0, 100}, 0},
		{"rest apart", []impl.Op{opOf(1, 0, 60, 1), opOf(1, 160, 190, 1)}, opOf(2, 90, 130, 1), 30, []int64{0, 160}, 0},
		{"one, by room", []impl.Op{opOf(1, 0, 60, 1), opOf(2, 60, 90, 3)}, opOf(2, 50, 70, 8), 30, []int64{0, 70}, 10},
		{"one, by a minute", []impl.Op{opOf(1, 0, 60, 1)}, opOf(1, 59, 70, 8), 30, []int64{70}, 70},
		{"one, by people", []impl.Op{opOf(1, 0, 60, 1), opOf(2, 60, 90, 3)}, opOf(5, 50, 70, 3, 8), 30, []int64{0, 100}, 40},
		{"one, by people ahead", []impl.Op{opOf(1, 0, 60, 1)}, opOf(2, 89, 100, 1), 30, []int64{130}, 130},
		{"one, by room and people", []impl.Op{opOf(2, 60, 90, 3)}, opOf(2, 50, 70, 3), 30, []int64{100}, 40},
		{"several", []impl.Op{opOf(1, 0, 60, 1), opOf(2, 0, 60, 2), opOf(3, 0, 60, 3)}, opOf(1, 10, 20, 2), 5, []int64{20, 25, 0}, 45},
		{"past others that stayed", []impl.Op{opOf(1, 0, 30, 1), opOf(1, 40, 60, 2), opOf(1, 65, 95, 3)}, opOf(1, 0, 15, 9), 0, []int64{95, 40, 65}, 95},
		{"between others that stayed", []impl.Op{opOf(1, 0, 30, 1), opOf(1, 35, 60, 2), opOf(1, 90, 120, 3)}, opOf(1, 0, 10, 9), 0, []int64{60, 35, 90}, 60},
		{"past somebody's rest", []impl.Op{opOf(1, 0, 30, 1), opOf(2, 50, 60, 1)}, opOf(1, 0, 10, 9), 20, []int64{80, 50}, 80},
		{"those put back meet one another", []impl.Op{opOf(1, 0, 30, 1), opOf(1, 30, 60, 2), opOf(1, 60, 90, 3)}, opOf(1, 10, 70, 9), 0, []int64{70, 100, 130}, 210},
		{"in the order of the list, not of time", []impl.Op{opOf(1, 60, 90, 3), opOf(1, 30, 60, 2), opOf(1, 0, 30, 1)}, opOf(1, 10, 70, 9), 0, []int64{70, 100, 130}, 210},
		{"put back ahead of one that was", []impl.Op{opOf(1, 60, 90, 3), opOf(1, 0, 30, 1)}, opOf(1, 20, 61, 9), 0, []int64{61, 91}, 92},
		{"the first goes far, the second fits", []impl.Op{opOf(1, 0, 30, 1), opOf(1, 30, 40, 2), opOf(1, 60, 90, 3)}, opOf(1, 20, 35, 9), 0, []int64{90, 35, 60}, 95},
		{"they meet by people", []impl.Op{opOf(1, 0, 30, 1, 7), opOf(2, 40, 70, 2, 7)}, opOf(3, 10, 50, 1, 2), 10, []int64{60, 100}, 120},
		{"one leaves, another need not follow", []impl.Op{opOf(1, 0, 30, 1), opOf(1, 200, 230, 2)}, opOf(1, 20, 60, 9), 0, []int64{60, 200}, 60},
		{"put back before urgent it never is", []impl.Op{opOf(1, 100, 110, 1)}, opOf(1, 105, 200, 9), 0, []int64{200}, 100},
		{"ends at the last time", []impl.Op{opOf(1, 9999900, 9999930, 1)}, opOf(1, 9999920, 9999970, 9), 0, []int64{9999970}, 70},
		{"all day", []impl.Op{opOf(1, 0, 60, 1), opOf(2, 1500, 1560, 2), opOf(2, 4500, 4560, 2)}, opOf(3, 100, 3060, 1, 2), 1440, []int64{4500, 6000, 4500}, 9000},
	}
	for _, c := range cases {
		list, later, is := impl.Insert(c.ops, c.urgent, c.rest)
		if !is || later != c.later || len(list) != len(c.ops)+1 {
			t.Errorf("%s: %v, %d, %v", c.what, list, later, is)
			continue
		}
		var want []impl.Op
		for at, op := range c.ops {
			want = append(want, begunAt(op, c.begins[at]))
		}
		if want = append(want, c.urgent); !sameOps(list, want) {
			t.Errorf("%s: %v, want %v", c.what, list, want)
		}
		checkInsert(t, c.ops, c.urgent, c.rest)
	}
}

func TestInsertRefuses(t *testing.T) {
	cases := []struct {
		what   string
		ops    []impl.Op
		urgent impl.Op
		rest   int64
	}{
		{"the list clashes by room", []impl.Op{opOf(1, 0, 60, 1), opOf(1, 59, 90, 2)}, opOf(3, 500, 600, 9), 30},
		{"the list clashes by people", []impl.Op{opOf(1, 0, 60, 1), opOf(2, 89, 90, 1)}, opOf(3, 500, 600, 9), 30},
		{"the list clashes at its end", []impl.Op{opOf(1, 0, 60, 1), opOf(2, 0, 60, 2), opOf(3, 0, 60, 3), opOf(4, 0, 60, 3)}, opOf(3, 500, 600, 9), 0},
		{"the list clashes where urgent would part it", []impl.Op{opOf(1, 0, 60, 1), opOf(1, 30, 90, 2)}, opOf(1, 20, 70, 9), 0},
		{"one cannot be put back", []impl.Op{opOf(1, 9999900, 9999931, 1)}, opOf(1, 9999920, 9999970, 9), 0},
		{"not for its rest", []impl.Op{opOf(1, 9999900, 9999930, 1)}, opOf(2, 9999920, 9999970, 1), 1},
		{"urgent takes all the time", []impl.Op{opOf(1, 500, 501, 1)}, opOf(1, 0, 10000000, 9), 0},
		{"not for one put back", []impl.Op{opOf(1, 9999900, 9999930, 1), opOf(1, 9999930, 9999950, 2)}, opOf(1, 9999920, 9999951, 9), 0},
		{"not for one that stayed", []impl.Op{opOf(1, 9999900, 9999930, 1), opOf(1, 9999950, 9999980, 2)}, opOf(1, 9999920, 9999930, 9), 0},
		{"the second of two", []impl.Op{opOf(1, 100, 130, 1), opOf(2, 9999940, 9999980, 2)}, opOf(1, 120, 9999970, 2, 9), 0},
	}
	for _, c := range cases {
		checkNotInserted(t, c.what, c.ops, c.urgent, c.rest)
		checkInsert(t, c.ops, c.urgent, c.rest)
	}
}

// With a rest the list may clash that does not without it.
func TestInsertAsksTheListByTheRest(t *testing.T) {
	ops := []impl.Op{opOf(1, 0, 60, 1), opOf(2, 90, 120, 1)}
	for rest, should := range map[int64]bool{0: true, 29: true, 30: true, 31: false, 1440: false} {
		if _, _, is := impl.Insert(ops, opOf(5, 0, 10, 9), rest); is != should {
			t.Errorf("rest %d: %v", rest, is)
		}
		checkInsert(t, ops, opOf(5, 0, 10, 9), rest)
	}
}

func TestInsertIntoFullLists(t *testing.T) {
	for count, should := range map[int]bool{0: true, 198: true, 199: true, 200: false, 201: false} {
		list, later, is := impl.Insert(opsInRow(count), opOf(9, 0, 60, 900), 0)
		if is != should || later != 0 || should && len(list) != count+1 || !should && len(list) != 0 {
			t.Errorf("%d operations: %d, %d, %v", count, len(list), later, is)
		}
	}
	// Each of them must make room, and each for those ahead.
	row := opsInRow(199)
	list, later, is := impl.Insert(row, opOf(7, 0, 60*199, 900), 0)
	if !is || later != 199*199*60 || list[198].From != 60*(199+198) {
		t.Error(later, is)
	}
	if len(impl.Clashes(list, 0)) != 0 {
		t.Error("the list clashes")
	}
	slices.Reverse(row)
	list, later, is = impl.Insert(row, opOf(7, 0, 60*199, 900), 0)
	if !is || later != 199*199*60 || list[0].From != 60*199 || list[198].From != 60*(199+198) {
		t.Error("from the last to the first:", later, is)
	}
}

// Promise 7, its first half.
func TestWhatInsertAnswersHasNoClash(t *testing.T) {
	coins := rand.New(rand.NewSource(55))
	moved, refused := 0, 0
	for range 4000 {
		span, rest := 4+coins.Int63n(300), coins.Int63n(40)
		ops, urgent := randomOps(coins, 16, 3, 8, span), randomOp(coins, 3, 8, span)
		if coins.Intn(8) > 0 {
			ops = opsWithoutClash(ops, rest)
		}
		list, later, is := impl.Insert(ops, urgent, rest)
		checkInsert(t, ops, urgent, rest)
		if !is {
			refused++
			continue
		}
		if len(impl.Clashes(list, rest)) != 0 || len(wantedClashes(list, rest)) != 0 || !impl.OpsOk(list) {
			t.Fatalf("Insert(%v, %v, %d) = %v", ops, urgent, rest, list)
		}
		if !sameOps(list[len(ops):], []impl.Op{urgent}) {
			t.Fatalf("Insert(%v, %v, %d) = %v: urgent is elsewhere", ops, urgent, rest, list)
		}
		if checkPutBack(t, ops, list, urgent, rest) != later {
			t.Fatalf("Insert(%v, %v, %d) = %v: %d minutes", ops, urgent, rest, list, later)
		}
		if later > 0 {
			moved++
		}
	}
	if moved < 1000 || refused < 100 {
		t.Error("too few that move others, or are refused:", moved, refused)
	}
}

// checkPutBack tells the minutes by which they begin later: only those that clash with urgent do, and they stay as long.
func checkPutBack(t *testing.T, ops, list []impl.Op, urgent impl.Op, rest int64) int64 {
	t.Helper()
	sum := int64(0)
	for at, op := range ops {
		if !sameOps([]impl.Op{begunAt(op, list[at].From)}, list[at:at+1]) {
			t.Fatalf("%v was put back as %v", op, list[at])
		}
		if begins := list[at].From; begins < op.From || (begins > op.From) != (wantedWhy(op, urgent, rest) != 0) {
			t.Fatalf("%v begins at %d, for %v with a rest of %d", op, begins, urgent, rest)
		}
		sum += list[at].From - op.From
	}
	return sum
}

func TestInsertAtTheEndOfTime(t *testing.T) {
	coins := rand.New(rand.NewSource(56))
	moved, refused := 0, 0
	for range 3000 {
		rest := coins.Int63n(10)
		var ops []impl.Op
		for _, op := range opsWithoutClash(randomOps(coins, 8, 3, 8, 60), rest) {
			if op = begunAt(op, op.From+9999930); op.To <= 10000000 {
				ops = append(ops, op)
			}
		}
		urgent := begunAt(randomOp(coins, 3, 8, 60), 9999930+coins.Int63n(50))
		urgent.To = min(urgent.To, 10000000)
		checkInsert(t, ops, urgent, rest)
		if _, later, is := impl.Insert(ops, urgent, rest); !is {
			refused++
		} else if later > 0 {
			moved++
		}
	}
	if moved < 100 || refused < 100 {
		t.Error("too few that move others, or are refused:", moved, refused)
	}
}

func TestInsertIntoManyLongLists(t *testing.T) {
	coins := rand.New(rand.NewSource(57))
	for range 40 {
		rest := coins.Int63n(200)
		ops := opsWithoutClash(randomOps(coins, 199, 20, 300, 2000), rest)
		checkInsert(t, ops, randomOp(coins, 20, 300, 4000), rest)
	}
}

func TestBusy(t *testing.T) {
	ops := []impl.Op{opOf(1, 0, 60, 0, 3), opOf(2, 10, 25, 3), opOf(1, 100, 101, 3, 5, 999), opOf(1, 100, 101, 3, 5)}
	for who, want := range map[int64]int64{0: 60, 3: 77, 5: 2, 999: 1, 1: 0, 4: 0, 998: 0, -1: 0, 1000: 0, math.MinInt64: 0, math.MaxInt64: 0} {
		if got := impl.Busy(ops, who); got != want {
			t.Errorf("Busy(%d) = %d, want %d", who, got, want)
		}
	}
	for _, who := range []int64{math.MinInt64, -1, 0, 5, 1000, math.MaxInt64} {
		if got := impl.Busy(nil, who); got != 0 {
			t.Errorf("Busy(%d) of none = %d", who, got)
		}
	}
	eight := []impl.Op{opOf(1, 5, 9, peopleTo(10, 8)...)}
	for who := int64(8); who <= 19; who++ {
		want := int64(0)
		if within(who, 10, 17) {
			want = 4
		}
		if got := impl.Busy(eight, who); got != want {
			t.Errorf("Busy(%d) = %d, want %d", who, got, want)
		}
	}
}

func TestBusyOfFullLists(t *testing.T) {
	if got := impl.Busy(opsInRow(200), 5); got != 200*60 {
		t.Error(got)
	}
	long := slices.Repeat([]impl.Op{opOf(1, 0, 10000000, 5)}, 200)
	if got := impl.Busy(long, 5); got != 2000000000 {
		t.Error("all the time, 200 times:", got)
	}
	if got := impl.Busy(append(long, opOf(1, 0, 1, 6)), 5); got != -1 {
		t.Error("201 operations:", got)
	}
}

func TestBusyOfManyLists(t *testing.T) {
	coins := rand.New(rand.NewSource(58))
	for range 500 {
		ops := randomOps(coins, 20, 3, 9, 100)
		for who := int64(-1); who <= 9; who++ {
			minutes := int64(0)
			for _, op := range ops {
				for range op.To - op.From {
					if slices.Contains(op.Team, who) {
						minutes++
					}
				}
			}
			if got := impl.Busy(ops, who); got != minutes {
				t.Fatalf("Busy(%v, %d) = %d, want %d", ops, who, got, minutes)
			}
		}
	}
}

// withSpareRoom gives lists that have room behind them, and a look at all of it.
func withSpareRoom(ops []impl.Op) ([]impl.Op, func() []impl.Op) {
	room := append(anewOps(ops), opOf(77, 7777, 7778, 77), opOf(88, 8888, 8889, 88))
	for at := range room {
		room[at].Team = append(room[at].Team, 55555, 66666)[:len(room[at].Team)]
	}
	return room[:len(ops)], func() []impl.Op {
		all := anewOps(room)
		for at := range all {
			all[at].Team = slices.Clone(room[at].Team[:len(room[at].Team)+2])
		}
		return all
	}
}

func spoil(ops []impl.Op) {
	for at := range ops {
		team := ops[at].Team[:cap(ops[at].Team)]
		for who := range team {
			team[who] = -9
		}
	}
	for at := range ops[:cap(ops)] {
		ops[:cap(ops)][at] = impl.Op{Room: -9}
	}
}

func TestOpsStayAndAnswersAreNewMemory(t *testing.T) {
	coins := rand.New(rand.NewSource(59))
	for range 400 {
		rest := coins.Int63n(30)
		ops, look := withSpareRoom(opsWithoutClash(randomOps(coins, 12, 3, 8, 100), rest))
		one, lookOne := withSpareRoom([]impl.Op{randomOp(coins, 3, 8, 100)})
		before, beforeOne := look(), lookOne()
		impl.OpsOk(ops)
		impl.Busy(ops, 3)
		impl.Earliest(ops, one[0], rest)
		clashes := impl.Clashes(append(slices.Clone(ops), one...), rest)
		kept := slices.Clone(clashes)
		again := impl.Clashes(append(slices.Clone(ops), one...), rest)
		for at := range again {
			again[at].A = -9
		}
		list, _, _ := impl.Insert(ops, one[0], rest)
		other, _, _ := impl.Insert(ops, one[0], rest)
		keptList := anewOps(list)
		spoil(other)
		if !sameOps(look(), before) || !sameOps(lookOne(), beforeOne) {
			t.Fatal("an argument was written into, or shares memory with an answer")
		}
		if !slices.Equal(clashes, kept) || !sameOps(list, keptList) {
			t.Fatal("two answers share memory")
		}
		checkTeamsApart(t, list)
	}
}

// checkTeamsApart spoils team after team: no other may feel it.
func checkTeamsApart(t *testing.T, list []impl.Op) {
	t.Helper()
	for at := range list {
		want := anewOps(list)
		team := list[at].Team[:cap(list[at].Team)]
		for who := range team {
			team[who] = -9
		}
		want[at].Team = slices.Clone(list[at].Team)
		if !sameOps(list, want) {
			t.Fatal("two teams of one list share memory")
		}
	}
}

func TestATeamThatIsGivenTwiceIsToldTwice(t *testing.T) {
	team := []int64{1, 2}
	ops := []impl.Op{{Room: 1, From: 0, To: 10, Team: team}, {Room: 2, From: 100, To: 110, Team: team}}
	list, _, is := impl.Insert(ops, impl.Op{Room: 3, From: 200, To: 210, Team: team}, 30)
	if !is || len(list) != 3 {
		t.Fatal(list, is)
	}
	checkTeamsApart(t, list)
	if !slices.Equal(team, []int64{1, 2}) {
		t.Error("the team given was written into")
	}
}
