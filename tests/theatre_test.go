package tests

import (
	"math"
	"math/rand"
	"slices"
	"testing"

	"loop.example/g00060/impl"
)

func isOp(op impl.Op) bool {
	right := within(op.Room, 0, 99) && within(op.From, 0, 10000000) && within(op.To, 0, 10000000) && op.From < op.To
	right = right && len(op.Team) >= 1 && len(op.Team) <= 8
	for at, who := range op.Team {
		right = right && within(who, 0, 999)
		for _, ahead := range op.Team[:at] {
			right = right && ahead < who
		}
	}
	return right
}

func areOps(ops []impl.Op) bool {
	for _, op := range ops {
		if !isOp(op) {
			return false
		}
	}
	return len(ops) <= 200
}

// liesApart: one of the two begins that many minutes or more behind the other's end.
func liesApart(a, b impl.Op, minutes int64) bool {
	return a.From >= b.To+minutes || b.From >= a.To+minutes
}

func shareSomebody(a, b impl.Op) bool {
	in := map[int64]bool{}
	for _, who := range a.Team {
		in[who] = true
	}
	return slices.ContainsFunc(b.Team, func(who int64) bool { return in[who] })
}

func wantedWhy(a, b impl.Op, rest int64) int64 {
	switch {
	case a.Room == b.Room && !liesApart(a, b, 0):
		return 1
	case shareSomebody(a, b) && !liesApart(a, b, rest):
		return 2
	}
	return 0
}

func wantedClashes(ops []impl.Op, rest int64) []impl.Clash {
	var list []impl.Clash
	if !areOps(ops) || !within(rest, 0, 1440) {
		return nil
	}
	for a := range ops {
		for b := range ops {
			if a < b && wantedWhy(ops[a], ops[b], rest) != 0 {
				list = append(list, impl.Clash{A: int64(a), B: int64(b), Why: wantedWhy(ops[a], ops[b], rest)})
			}
		}
	}
	return list
}

func checkClashes(t *testing.T, ops []impl.Op, rest int64) {
	t.Helper()
	if got, want := impl.Clashes(ops, rest), wantedClashes(ops, rest); !slices.Equal(got, want) {
		t.Fatalf("Clashes(%v, %d) = %v, want %v", ops, rest, got, want)
	}
}

func opOf(room, from, to int64, team ...int64) impl.Op {
	return impl.Op{Room: room, From: from, To: to, Team: team}
}

func sameOps(a, b []impl.Op) bool {
	return slices.EqualFunc(a, b, func(x, y impl.Op) bool {
		return x.Room == y.Room && x.From == y.From && x.To == y.To && slices.Equal(x.Team, y.Team)
	})
}

func anewOps(ops []impl.Op) []impl.Op {
	var list []impl.Op
	for _, op := range ops {
		op.Team = slices.Clone(op.Team)
		list = append(list, op)
	}
	return list
}

// opsInRow has count operations of one room and one team, each an hour, end to end.
func opsInRow(count int) []impl.Op {
	var list []impl.Op
	for at := range int64(count) {
		list = append(list, opOf(7, 60*at, 60*at+60, 4, 5))
	}
	return list
}

// peopleTo has count numbers from first on.
func peopleTo(first int64, count int) []int64 {
	var team []int64
	for at := range int64(count) {
		team = append(team, first+at)
	}
	return team
}

func randomOp(coins *rand.Rand, rooms, people, span int64) impl.Op {
	from := coins.Int63n(span)
	op := impl.Op{Room: coins.Int63n(rooms), From: from, To: from + 1 + coins.Int63n(span/4+1)}
	for who := range people {
		if len(op.Team) < 8 && coins.Intn(3) == 0 {
			op.Team = append(op.Team, who)
		}
	}
	if len(op.Team) == 0 {
		op.Team = []int64{coins.Int63n(people)}
	}
	return op
}

func randomOps(coins *rand.Rand, most int, rooms, people, span int64) []impl.Op {
	var list []impl.Op
	for range coins.Intn(most + 1) {
		list = append(list, randomOp(coins, rooms, people, span))
	}
	return list
}

func TestLimitsAndCodesOfTheatres(t *testing.T) {
	got := []int64{impl.MaxTeam, impl.MaxOps, impl.MaxRest, impl.ClRoom, impl.ClPeople}
	if !slices.Equal(got, []int64{8, 200, 1440, 1, 2}) {
		t.Error(got)
	}
}

func rightOps() map[string]impl.Op {
	return map[string]impl.Op{
		"plain":              opOf(3, 10, 20, 1, 2),
		"room 0":             opOf(0, 10, 20, 1),
		"room 99":            opOf(99, 10, 20, 1),
		"from 0":             opOf(3, 0, 20, 1),
		"one minute":         opOf(3, 10, 11, 1),
		"the first minute":   opOf(3, 0, 1, 1),
		"to the last time":   opOf(3, 10, 10000000, 1),
		"the last minute":    opOf(3, 9999999, 10000000, 1),
		"all the time":       opOf(3, 0, 10000000, 1),
		"who 0":              opOf(3, 10, 20, 0),
		"who 999":            opOf(3, 10, 20, 999),
		"first and last":     opOf(3, 10, 20, 0, 999),
		"seven":              opOf(3, 10, 20, peopleTo(5, 7)...),
		"eight":              opOf(3, 10, 20, peopleTo(0, 8)...),
		"the last eight":     opOf(3, 10, 20, peopleTo(992, 8)...),
		"eight with gaps":    opOf(3, 10, 20, 0, 2, 3, 50, 60, 700, 998, 999),
		"a day and one more": opOf(3, 0, 1441, 1),
	}
}

func wrongOps() map[string]impl.Op {
	return map[string]impl.Op{
		"zero":               {},
		"room -1":            opOf(-1, 10, 20, 1),
		"room 100":           opOf(100, 10, 20, 1),
		"the least room":     opOf(math.MinInt64, 10, 20, 1),
		"the greatest room":  opOf(math.MaxInt64, 10, 20, 1),
		"from -1":            opOf(3, -1, 20, 1),
		"the least from":     opOf(3, math.MinInt64, 20, 1),
		"from past the end":  opOf(3, 10000001, 10000002, 1),
		"the greatest from":  opOf(3, math.MaxInt64, 20, 1),
		"to past the end":    opOf(3, 10, 10000001, 1),
		"the greatest to":    opOf(3, 10, math.MaxInt64, 1),
		"to -1":              opOf(3, 10, -1, 1),
		"both below 0":       opOf(3, -2, -1, 1),
		"to the least":       opOf(3, 10, math.MinInt64, 1),
		"from is to":         opOf(3, 10, 10, 1),
		"from is to is 0":    opOf(3, 0, 0, 1),
		"from is to is last": opOf(3, 10000000, 10000000, 1),
		"from above to":      opOf(3, 11, 10, 1),
		"no team":            opOf(3, 10, 20),
		"an empty team":      {Room: 3, From: 10, To: 20, Team: []int64{}},
		"nine":               opOf(3, 10, 20, peopleTo(0, 9)...),
		"far too many":       opOf(3, 10, 20, peopleTo(0, 500)...),
		"who -1":             opOf(3, 10, 20, -1),
		"who 1000":           opOf(3, 10, 20, 1000),
		"first of two -1":    opOf(3, 10, 20, -1, 4),
		"last of two 1000":   opOf(3, 10, 20, 999, 1000),
		"the least who":      opOf(3, 10, 20, math.MinInt64),
		"the greatest who":   opOf(3, 10, 20, math.MaxInt64),
		"one twice":          opOf(3, 10, 20, 4, 4),
		"0 twice":            opOf(3, 10, 20, 0, 0),
		"one twice at last":  opOf(3, 10, 20, 1, 4, 4),
		"one twice, apart":   opOf(3, 10, 20, 4, 5, 4),
		"falling":            opOf(3, 10, 20, 5, 4),
		"falling at last":    opOf(3, 10, 20, 1, 2, 6, 5),
		"eight falling":      opOf(3, 10, 20, 1, 2, 3, 4, 5, 6, 8, 7),
	}
}

func TestOpsOk(t *testing.T) {
	for name, op := range rightOps() {
		if !impl.OpsOk([]impl.Op{op}) || !isOp(op) {
			t.Errorf("%s: %v is right", name, op)
		}
	}
	lists := map[string][]impl.Op{
		"none":              nil,
		"an empty list":     {},
		"two alike":         {opOf(3, 10, 20, 1), opOf(3, 10, 20, 1)},
		"in no order":       {opOf(3, 30, 40, 1), opOf(2, 10, 20, 1)},
		"199":               opsInRow(199),
		"200":               opsInRow(200),
		"200 at one minute": slices.Repeat([]impl.Op{opOf(3, 10, 20, 1)}, 200),
	}
	for name, list := range lists {
		if !impl.OpsOk(list) {
			t.Errorf("%s: %v is right", name, list)
		}
	}
	for _, count := range []int{201, 202, 1000} {
		if impl.OpsOk(opsInRow(count)) {
			t.Errorf("%d operations are too many", count)
		}
	}
}

// One wrong operation, first, between and last: each function has its one fixed answer.
func TestWrongOpsAreRefused(t *testing.T) {
	for name, wrong := range wrongOps() {
		if isOp(wrong) {
			t.Errorf("%s: the oracle takes %v", name, wrong)
		}
		// The others clash and 4 is in both of them, so an answer that looks at them is told from the fixed one.
		fine := []impl.Op{opOf(3, 10, 20, 1, 4), opOf(3, 15, 25, 4, 9)}
		for place := range 3 {
			checkRefused(t, name, slices.Insert(slices.Clone(fine), place, wrong))
		}
		checkRefused(t, name, []impl.Op{wrong})
		if got := impl.Earliest(fine[:1], wrong, 30); got != -1 {
			t.Errorf("%s as new: Earliest = %d", name, got)
		}
		if got := impl.Earliest(nil, wrong, 0); got != -1 {
			t.Errorf("%s as new, none there: Earliest = %d", name, got)
		}
		checkNotInserted(t, name+" as urgent", fine[:1], wrong, 30)
		checkNotInserted(t, name+" as urgent, none there", nil, wrong, 0)
	}
	for _, count := range []int{201, 300} {
		checkRefused(t, "too many", opsInRow(count))
	}
}

func checkRefused(t *testing.T, name string, ops []impl.Op) {
	t.Helper()
	if impl.OpsOk(ops) {
		t.Errorf("%s: %v is not right", name, ops)
	}
	if got := impl.Clashes(ops, 30); len(got) != 0 {
		t.Errorf("%s: Clashes(%v) = %v", name, ops, got)
	}
	if got := impl.Earliest(ops, opOf(50, 10, 20, 900), 30); got != -1 {
		t.Errorf("%s: Earliest(%v) = %d", name, ops, got)
	}
	checkNotInserted(t, name, ops, opOf(50, 10, 20, 900), 30)
	for _, who := range []int64{-1, 1, 4, 5, 1000} {
		if got := impl.Busy(ops, who); got != -1 {
			t.Errorf("%s: Busy(%v, %d) = %d", name, ops, who, got)
		}
	}
}

func checkNotInserted(t *testing.T, name string, ops []impl.Op, urgent impl.Op, rest int64) {
	t.Helper()
	if list, later, is := impl.Insert(ops, urgent, rest); len(list) != 0 || later != 0 || is {
		t.Errorf("%s: Insert(%v, %v, %d) = %v, %d, %v", name, ops, urgent, rest, list, later, is)
	}
}

func TestRestOutOfRange(t *testing.T) {
	clashing := []impl.Op{opOf(3, 10, 20, 1), opOf(3, 15, 25, 1)}
	apart := []impl.Op{opOf(3, 2000, 2010, 1)}
	for _, rest := range []int64{math.MinInt64, -1440, -2, -1, 1441, 1442, math.MaxInt64} {
		if got := impl.Clashes(clashing, rest); len(got) != 0 {
			t.Errorf("rest %d: %v", rest, got)
		}
		if got := impl.Earliest(apart, opOf(4, 30, 40, 2), rest); got != -1 {
			t.Errorf("rest %d: %d", rest, got)
		}
		if got := impl.Earliest(nil, opOf(4, 30, 40, 2), rest); got != -1 {
			t.Errorf("rest %d of none: %d", rest, got)
		}
		checkNotInserted(t, "rest out of range", apart, opOf(4, 30, 40, 2), rest)
		checkNotInserted(t, "rest out of range, none", nil, opOf(4, 30, 40, 2), rest)
	}
	for _, rest := range []int64{0, 1, 1439, 1440} {
		if got := impl.Clashes(clashing, rest); len(got) != 1 {
			t.Errorf("rest %d: %v", rest, got)
		}
		if got := impl.Earliest(apart, opOf(4, 30, 40, 2), rest); got != 30 {
			t.Errorf("rest %d: %d", rest, got)
		}
		if list, later, is := impl.Insert(apart, opOf(4, 30, 40, 2), rest); len(list) != 2 || later != 0 || !is {
			t.Errorf("rest %d: %v, %d, %v", rest, list, later, is)
		}
	}
}

func TestClashesOfTwo(t *testing.T) {
	cases := []struct {
		what string
		a, b impl.Op
		rest int64
		why  int64
	}{
		{"one room, touching", opOf(3, 10, 20, 1), opOf(3, 20, 30, 2), 30, 0},
		{"one room, a minute between", opOf(3, 10, 20, 1), opOf(3, 21, 30, 2), 30, 0},
		{"one room, one minute shared", opOf(3, 10, 20, 1), opOf(3, 19, 30, 2), 30, 1},
		{"one room, one in the other", opOf(3, 10, 20, 1), opOf(3, 14, 15, 2), 0, 1},
		{"one room, from one begin", opOf(3, 10, 20, 1), opOf(3, 10, 11, 2), 0, 1},
		{"one room, to one end", opOf(3, 10, 20, 1), opOf(3, 19, 20, 2), 0, 1},
		{"one room, the same times", opOf(3, 10, 20, 1), opOf(3, 10, 20, 2), 0, 1},
		{"two rooms, the same times", opOf(3, 10, 20, 1), opOf(4, 10, 20, 2), 1440, 0},
		{"room 0 twice", opOf(0, 10, 20, 1), opOf(0, 15, 25, 2), 0, 1},
		{"rooms 0 and 99", opOf(0, 10, 20, 1), opOf(99, 15, 25, 2), 0, 0},
		{"somebody in both, rest apart", opOf(3, 10, 20, 1, 2), opOf(4, 50, 60, 2, 3), 30, 0},
		{"somebody in both, one less", opOf(3, 10, 20, 1, 2), opOf(4, 49, 60, 2, 3), 30, 2},
		{"somebody in both, one more", opOf(3, 10, 20, 1, 2), opOf(4, 51, 60, 2, 3), 30, 0},
		{"no rest, touching", opOf(3, 10, 20, 1), opOf(4, 20, 30, 1), 0, 0},
		{"no rest, one minute shared", opOf(3, 10, 20, 1), opOf(4, 19, 30, 1), 0, 2},
		{"no rest, a minute between", opOf(3, 10, 20, 1), opOf(4, 21, 30, 1), 0, 0},
		{"a rest of 1, touching", opOf(3, 10, 20, 1), opOf(4, 20, 30, 1), 1, 2},
		{"a rest of 1, a minute between", opOf(3, 10, 20, 1), opOf(4, 21, 30, 1), 1, 0},
		{"the most rest", opOf(3, 10, 20, 1), opOf(4, 1460, 1470, 1), 1440, 0},
		{"the most rest, one less", opOf(3, 10, 20, 1), opOf(4, 1459, 1470, 1), 1440, 2},
		{"one in the other, somebody in both", opOf(3, 10, 20, 1), opOf(4, 14, 15, 1), 0, 2},
		{"room and people", opOf(3, 10, 20, 1), opOf(3, 15, 25, 1), 30, 1},
		{"room and people, no rest", opOf(3, 10, 20, 1), opOf(3, 19, 25, 1), 0, 1},
		{"one room and somebody, touching", opOf(3, 10, 20, 1), opOf(3, 20, 25, 1), 30, 2},
		{"one room and somebody, rest apart", opOf(3, 10, 20, 1), opOf(3, 50, 55, 1), 30, 0},
		{"one room and somebody, no rest", opOf(3, 10, 20, 1), opOf(3, 20, 25, 1), 0, 0},
		{"the first and the last", opOf(3, 10, 20, 1, 2, 9), opOf(4, 10, 20, 9, 10, 11), 0, 2},
		{"the last and the first", opOf(3, 10, 20, 9, 10), opOf(4, 10, 20, 1, 2, 9), 0, 2},
		{"all between", opOf(3, 10, 20, 1, 3, 5, 7), opOf(4, 10, 20, 0, 2, 4, 6, 8), 1440, 0},
		{"eight and eight, one in both", opOf(3, 10, 20, 0, 1, 2, 3, 4, 5, 6, 7), opOf(4, 10, 20, 7, 8, 9, 10, 11, 12, 13, 14), 0, 2},
		{"eight and eight, none", opOf(3, 10, 20, 0, 1, 2, 3, 4, 5, 6, 7), opOf(4, 10, 20, 8, 9, 10, 11, 12, 13, 14, 15), 0, 0},
		{"who 0 in both", opOf(3, 10, 20, 0), opOf(4, 10, 20, 0), 0, 2},
		{"who 999 in both", opOf(3, 10, 20, 999), opOf(4, 10, 20, 999), 0, 2},
		{"both ends of time", opOf(3, 0, 1, 1), opOf(3, 9999999, 10000000, 1), 1440, 0},
		{"all the time", opOf(3, 0, 10000000, 1), opOf(3, 9999999, 10000000, 2), 0, 1},
	}
	for _, c := range cases {
		for _, list := range [][]impl.Op{{c.a, c.b}, {c.b, c.a}} {
			want := []impl.Clash{{A: 0, B: 1, Why: c.why}}
			if c.why == 0 {
				want = nil
			}
			if got := impl.Clashes(list, c.rest); !slices.Equal(got, want) {
				t.Errorf("%s: Clashes(%v, %d) = %v, want %v", c.what, list, c.rest, got, want)
			}
			checkClashes(t, list, c.rest)
		}
	}
}

func TestClashesByAThenB(t *testing.T) {
	list := []impl.Op{opOf(3, 40, 50, 8), opOf(1, 10, 20, 1), opOf(2, 12, 18, 2), opOf(1, 14, 30, 2), opOf(3, 10, 12, 1, 5), opOf(3, 45, 55, 5)}
	want := []impl.Clash{{A: 0, B: 5, Why: 1}, {A: 1, B: 3, Why: 1}, {A: 1, B: 4, Why: 2}, {A: 2, B: 3, Why: 2}}
	if got := impl.Clashes(list, 33); !slices.Equal(got, want) {
		t.Errorf("%v, want %v", got, want)
	}
	want = append(want, impl.Clash{A: 4, B: 5, Why: 2})
	if got := impl.Clashes(list, 34); !slices.Equal(got, want) {
		t.Errorf("%v, want %v", got, want)
	}
	for _, list := range [][]impl.Op{nil, {}, list[:1], opsInRow(5)} {
		if got := impl.Clashes(list, 0); len(got) != 0 {
			t.Errorf("%v: %v", list, got)
		}
	}
}

func TestClashesOfFullLists(t *testing.T) {
	alike := slices.Repeat([]impl.Op{opOf(3, 10, 20, 1)}, 200)
	got := impl.Clashes(alike, 0)
	if len(got) != 19900 || got[0] != (impl.Clash{A: 0, B: 1, Why: 1}) || got[19899] != (impl.Clash{A: 198, B: 199, Why: 1}) {
		t.Error(len(got))
	}
	checkClashes(t, alike, 0)
	row := opsInRow(200)
	if got := impl.Clashes(row, 0); len(got) != 0 {
		t.Error("end to end:", got)
	}
	if got := impl.Clashes(row, 1); len(got) != 199 || got[198] != (impl.Clash{A: 198, B: 199, Why: 2}) {
		t.Error("end to end, a rest of 1:", len(got))
	}
	if got := impl.Clashes(append(alike, opOf(3, 10, 20, 1)), 0); len(got) != 0 {
		t.Error("201 operations:", len(got))
	}
}

// All pairs of short operations of two rooms and of teams out of three people.
func TestClashesOfAllPairs(t *testing.T) {
	var all []impl.Op
	for room := range int64(2) {
		for from := range int64(6) {
			for _, length := range []int64{1, 2, 4} {
				for _, team := range [][]int64{{0}, {1}, {0, 1}, {1, 2}} {
					all = append(all, opOf(room, from, from+length, team...))
				}
			}
		}
	}
	for _, a := range all {
		for _, b := range all {
			for _, rest := range []int64{0, 1, 2, 3} {
				checkClashes(t, []impl.Op{a, b}, rest)
			}
		}
	}
}

func TestClashesOfManyLists(t *testing.T) {
	coins := rand.New(rand.NewSource(51))
	for range 3000 {
		checkClashes(t, randomOps(coins, 10, 4, 12, 1+coins.Int63n(200)), coins.Int63n(60))
	}
	for range 30 {
		checkClashes(t, randomOps(coins, 200, 100, 200, 5000), coins.Int63n(1441))
	}
}
