package tests

import (
	"math/rand"
	"slices"
	"testing"

	"loop.example/g00060/impl"
)

func begunAt(op impl.Op, time int64) impl.Op {
	op.From, op.To = time, time+(op.To-op.From)
	return op
}

func clashesWithNone(op impl.Op, ops []impl.Op, rest int64) bool {
	return !slices.ContainsFunc(ops, func(other impl.Op) bool { return wantedWhy(op, other, rest) != 0 })
}

// earliestByMinutes asks minute after minute.
func earliestByMinutes(ops []impl.Op, op impl.Op, rest int64) int64 {
	for time := op.From; begunAt(op, time).To <= 10000000; time++ {
		if clashesWithNone(begunAt(op, time), ops, rest) {
			return time
		}
	}
	return -1
}

func wantedEarliest(ops []impl.Op, op impl.Op, rest int64) int64 {
	if !areOps(ops) || !isOp(op) || !within(rest, 0, 1440) {
		return -1
	}
	return earliestByMinutes(ops, op, rest)
}

func checkEarliest(t *testing.T, ops []impl.Op, op impl.Op, rest int64) {
	t.Helper()
	if got, want := impl.Earliest(ops, op, rest), wantedEarliest(ops, op, rest); got != want {
		t.Fatalf("Earliest(%v, %v, %d) = %d, want %d", ops, op, rest, got, want)
	}
}

func TestEarliest(t *testing.T) {
	two := []impl.Op{opOf(1, 100, 160, 1, 2), opOf(1, 190, 200, 3)}
	cases := []struct {
		what string
		ops  []impl.Op
		op   impl.Op
		rest int64
		want int64
	}{
		{"none there", nil, opOf(1, 30, 40, 1), 30, 30},
		{"an empty list", []impl.Op{}, opOf(1, 0, 1, 1), 30, 0},
		{"at its From, ahead of all", two, opOf(1, 30, 100, 9), 30, 30},
		{"at its From, one minute too long", two, opOf(1, 30, 101, 9), 30, 200},
		{"at its From, behind all", two, opOf(1, 200, 300, 9), 30, 200},
		{"at its From, between", two, opOf(1, 160, 190, 9), 30, 160},
		{"at its From, in another room", two, opOf(2, 110, 150, 9), 30, 110},
		{"just behind another", two, opOf(1, 110, 115, 9), 30, 160},
		{"between two, just as long as the gap", two, opOf(1, 110, 140, 9), 30, 160},
		{"not between, one minute too long", two, opOf(1, 110, 141, 9), 30, 200},
		{"only behind all", two, opOf(1, 0, 150, 9), 30, 200},
		{"from the last minute of one", two, opOf(1, 159, 161, 9), 30, 160},
		{"rest behind somebody's", two, opOf(2, 110, 120, 2), 30, 190},
		{"rest ahead of somebody's", two, opOf(2, 40, 70, 2), 30, 40},
		{"rest ahead, one minute less", two, opOf(2, 40, 71, 2), 30, 190},
		{"no rest behind somebody's", two, opOf(2, 110, 120, 2), 0, 160},
		{"somebody's rest, then a room", two, opOf(1, 110, 115, 2), 30, 200},
		{"room, then somebody's rest", two, opOf(1, 195, 196, 3), 30, 230},
		{"a room, then somebody's rest that goes on", two, opOf(1, 191, 196, 1, 2, 3), 1440, 1640},
		{"in one's own room and rest", two[:1], opOf(1, 120, 130, 1), 15, 175},
		{"a list that clashes by itself", []impl.Op{opOf(1, 0, 50, 1), opOf(1, 10, 70, 1), opOf(1, 20, 60, 2)}, opOf(1, 5, 6, 8), 0, 70},
		{"a list out of order", []impl.Op{opOf(1, 40, 60, 1), opOf(1, 20, 40, 2), opOf(1, 0, 20, 3)}, opOf(1, 5, 6, 8), 9, 60},
		{"ends at the last time", []impl.Op{opOf(1, 100, 9999990, 1)}, opOf(1, 200, 210, 9), 30, 9999990},
		{"would end one minute behind it", []impl.Op{opOf(1, 100, 9999990, 1)}, opOf(1, 200, 211, 9), 30, -1},
		{"ends at the last time by rest", []impl.Op{opOf(1, 100, 9999960, 1)}, opOf(2, 200, 210, 1), 30, 9999990},
		{"would end behind it by rest", []impl.Op{opOf(1, 100, 9999960, 1)}, opOf(2, 200, 211, 1), 30, -1},
		{"rest passes the last time", []impl.Op{opOf(1, 100, 9999990, 1)}, opOf(2, 200, 201, 1), 30, -1},
		{"no time is left", []impl.Op{opOf(1, 0, 10000000, 1)}, opOf(1, 0, 1, 2), 0, -1},
		{"all the time", nil, opOf(1, 0, 10000000, 2), 0, 0},
		{"all the time, another room", []impl.Op{opOf(1, 0, 10000000, 1)}, opOf(2, 0, 10000000, 2), 1440, 0},
		{"all the time but a minute", []impl.Op{opOf(1, 0, 1, 1)}, opOf(1, 0, 9999999, 2), 0, 1},
		{"all the time, a minute there", []impl.Op{opOf(1, 0, 1, 1)}, opOf(1, 0, 10000000, 2), 0, -1},
		{"the last minute", []impl.Op{opOf(1, 0, 9999999, 1)}, opOf(1, 0, 1, 2), 0, 9999999},
		{"from the last minute on", nil, opOf(1, 9999999, 10000000, 2), 1440, 9999999},
	}
	for _, c := range cases {
		if got := impl.Earliest(c.ops, c.op, c.rest); got != c.want {
			t.Errorf("%s: Earliest(%v, %v, %d) = %d, want %d", c.what, c.ops, c.op, c.rest, got, c.want)
		}
	}
}

func TestEarliestOfFullLists(t *testing.T) {
	row := opsInRow(200)
	for _, c := range []struct{ rest, want int64 }{{0, 12000}, {1, 12001}, {1440, 13440}} {
		if got := impl.Earliest(row, opOf(8, 5, 6, 5), c.rest); got != c.want {
			t.Errorf("rest %d: %d, want %d", c.rest, got, c.want)
		}
	}
	slices.Reverse(row)
	if got := impl.Earliest(row, opOf(7, 0, 30, 900), 1440); got != 12000 {
		t.Error("from the last to the first:", got)
	}
	row[100].Room = 8
	if got := impl.Earliest(row, opOf(7, 0, 60, 900), 1440); got != 60*99 {
		t.Error("in the one gap:", got)
	}
	if got := impl.Earliest(opsInRow(201), opOf(8, 0, 60, 900), 0); got != -1 {
		t.Error("201 operations:", got)
	}
}

// One operation of ten minutes: every begin, every length, every rest round about it.
func TestEarliestRoundAboutOne(t *testing.T) {
	for _, there := range []impl.Op{opOf(1, 20, 30, 1), opOf(2, 20, 30, 1, 2), opOf(1, 20, 30, 1, 2)} {
		for from := range int64(50) {
			for length := int64(1); length <= 12; length++ {
				for _, rest := range []int64{0, 1, 5, 20} {
					checkEarliest(t, []impl.Op{there}, opOf(1, from, from+length, 2), rest)
				}
			}
		}
	}
}

func TestEarliestAtTheEndOfTime(t *testing.T) {
	coins := rand.New(rand.NewSource(52))
	late, none := 0, 0
	for range 4000 {
		var ops []impl.Op
		for _, op := range randomOps(coins, 8, 2, 4, 60) {
			op = begunAt(op, op.From+9999940)
			op.To = min(op.To, 10000000)
			ops = append(ops, op)
		}
		op := begunAt(randomOp(coins, 2, 4, 60), 9999930+coins.Int63n(60))
		rest := coins.Int63n(20)
		checkEarliest(t, ops, op, rest)
		if got := wantedEarliest(ops, op, rest); got < 0 {
			none++
		} else if got > op.From {
			late++
		}
	}
	if late < 100 || none < 100 {
		t.Error("too few that begin later, or find no time:", late, none)
	}
}

// Promise 7, its second half.
func TestEarliestClashesWithNothingAndNoEarlierMinuteDoes(t *testing.T) {
	coins := rand.New(rand.NewSource(53))
	later := 0
	for range 3000 {
		span := 1 + coins.Int63n(200)
		ops, op, rest := randomOps(coins, 14, 3, 8, span), randomOp(coins, 3, 8, span), coins.Int63n(40)
		got := impl.Earliest(ops, op, rest)
		if got < op.From {
			t.Fatalf("Earliest(%v, %v, %d) = %d: time there is", ops, op, rest, got)
		}
		if clashes := impl.Clashes(append(slices.Clone(ops), begunAt(op, got)), rest); len(clashes) != len(impl.Clashes(ops, rest)) {
			t.Fatalf("Earliest(%v, %v, %d) = %d clashes", ops, op, rest, got)
		}
		for time := op.From; time < got; time++ {
			if clashesWithNone(begunAt(op, time), ops, rest) {
				t.Fatalf("Earliest(%v, %v, %d) = %d, and %d would do", ops, op, rest, got, time)
			}
		}
		if got > op.From {
			later++
		}
		checkEarliest(t, ops, op, rest)
	}
	if later < 500 {
		t.Error("too few that begin later:", later)
	}
}

func TestEarliestOfManyLongLists(t *testing.T) {
	coins := rand.New(rand.NewSource(54))
	for range 60 {
		ops := randomOps(coins, 200, 6, 30, 3000)
		checkEarliest(t, ops, randomOp(coins, 6, 30, 3000), coins.Int63n(1441))
	}
}
