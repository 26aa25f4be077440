package tests

import (
	"math"
	"math/rand"
	"slices"
	"testing"

	"loop.example/g00060/impl"
)

// turnAt is the turn of the order that is due at that minute, counted up from the first; -1: none.
func turnAt(o impl.Order, minute int64) int64 {
	since := o.First
	for turn := range o.Count {
		if since == minute {
			return turn
		}
		since += o.Every
	}
	return -1
}

func wasGiven(c impl.Chart, order, turn int64) bool {
	return slices.ContainsFunc(c.Doses, func(d impl.Dose) bool { return d.Order == order && d.Turn == turn })
}

// wantedDue goes through the minutes, and in each through the orders, which rise.
func wantedDue(c impl.Chart, time int64) []impl.Due {
	var due []impl.Due
	if !isChart(c) || !within(time, 0, 10000000) {
		return due
	}
	for minute := time - 60; minute <= time+30; minute++ {
		for _, o := range c.Orders {
			if turn := turnAt(o, minute); o.State == 2 && turn >= 0 && !wasGiven(c, o.Id, turn) {
				due = append(due, impl.Due{Order: o.Id, Turn: turn, Since: minute})
			}
		}
	}
	return due
}

func checkDue(t *testing.T, what string, c impl.Chart, time int64, want ...impl.Due) {
	t.Helper()
	if got := impl.DueAt(c, time); !slices.Equal(got, want) {
		t.Errorf("%s: DueAt(%+v, %d) = %v, want %v", what, c, time, got, want)
	}
	if told := wantedDue(c, time); !slices.Equal(told, want) {
		t.Errorf("%s: the test itself tells %v, want %v", what, told, want)
	}
}

func checkDueAsTold(t *testing.T, c impl.Chart, time int64) []impl.Due {
	t.Helper()
	want := wantedDue(c, time)
	if got := impl.DueAt(c, time); !slices.Equal(got, want) {
		t.Fatalf("DueAt(%+v, %d) = %v, want %v", c, time, got, want)
	}
	return want
}

func TestDueAtTheEndsOfItsTime(t *testing.T) {
	c := chartOf([]impl.Order{orderAs(4, func(o *impl.Order) { o.Count = 1 })}) // due at 100
	due := impl.Due{Order: 4, Turn: 0, Since: 100}
	for time, want := range map[int64][]impl.Due{
		0: nil, 1: nil, 39: nil, 69: nil, 70: {due}, 71: {due}, 99: {due}, 100: {due}, 101: {due}, 130: {due}, 159: {due}, 160: {due}, 161: nil, 162: nil, 300: nil, 10000000: nil,
	} {
		checkDue(t, "due at 100", c, time, want...)
	}
	for time := int64(0); time <= 400; time++ {
		checkDueAsTold(t, c, time)
	}
}

func TestDueOfEachTurn(t *testing.T) {
	c := chartOf([]impl.Order{anOrder(4)}) // due at 100, 300 and 500
	checkDue(t, "before the first", c, 69)
	checkDue(t, "the first", c, 70, impl.Due{Order: 4, Turn: 0, Since: 100})
	checkDue(t, "between", c, 200)
	checkDue(t, "the second", c, 360, impl.Due{Order: 4, Turn: 1, Since: 300})
	checkDue(t, "the last", c, 470, impl.Due{Order: 4, Turn: 2, Since: 500})
	checkDue(t, "the last, late", c, 560, impl.Due{Order: 4, Turn: 2, Since: 500})
	checkDue(t, "behind the last", c, 561)
	checkDue(t, "there is no fourth", c, 700)
	few := chartOf([]impl.Order{orderAs(4, func(o *impl.Order) { o.Every, o.Count = 30, 4 })}) // due at 100, 130, 160, 190
	checkDue(t, "four at once", few, 160, impl.Due{Order: 4, Turn: 0, Since: 100}, impl.Due{Order: 4, Turn: 1, Since: 130}, impl.Due{Order: 4, Turn: 2, Since: 160}, impl.Due{Order: 4, Turn: 3, Since: 190})
	checkDue(t, "the first is too late", few, 161, impl.Due{Order: 4, Turn: 1, Since: 130}, impl.Due{Order: 4, Turn: 2, Since: 160}, impl.Due{Order: 4, Turn: 3, Since: 190})
	checkDue(t, "the last is too soon", few, 159, impl.Due{Order: 4, Turn: 0, Since: 100}, impl.Due{Order: 4, Turn: 1, Since: 130}, impl.Due{Order: 4, Turn: 2, Since: 160})
}

func TestDueOfTurnsThatWereGiven(t *testing.T) {
	order := orderAs(4, func(o *impl.Order) { o.Every, o.Count = 10, 3 }) // due at 100, 110, 120
	first, second, third := impl.Due{Order: 4, Turn: 0, Since: 100}, impl.Due{Order: 4, Turn: 1, Since: 110}, impl.Due{Order: 4, Turn: 2, Since: 120}
	orders := []impl.Order{order, anOrder(5)}
	other := impl.Due{Order: 5, Turn: 0, Since: 100}
	checkDue(t, "none given", chartOf(orders), 110, first, other, second, third)
	checkDue(t, "the first", chartOf(orders, doseOf(4, 0, 100)), 110, other, second, third)
	checkDue(t, "the second", chartOf(orders, doseOf(4, 1, 100)), 110, first, other, third)
	checkDue(t, "the last", chartOf(orders, doseOf(4, 2, 100)), 110, first, other, second)
	checkDue(t, "that of the other", chartOf(orders, doseOf(5, 0, 100)), 110, first, second, third)
	checkDue(t, "all", chartOf(orders, doseOf(4, 2, 100), doseOf(5, 0, 100), doseOf(4, 0, 101), doseOf(4, 1, 102)), 110)
	checkDue(t, "a later turn of the other", chartOf(orders, doseOf(5, 2, 100)), 110, first, other, second, third)
	checkDue(t, "given behind the time that is asked", chartOf(orders, doseOf(4, 0, 9000)), 110, other, second, third)
}

func TestDueOfEachState(t *testing.T) {
	for state := int64(1); state <= 4; state++ {
		c := chartOf([]impl.Order{anOrder(3), orderAs(4, func(o *impl.Order) { o.State = state }), orderAs(5, func(o *impl.Order) { o.State = state })})
		want := []impl.Due{{Order: 3, Turn: 0, Since: 100}}
		if state == 2 {
			want = append(want, impl.Due{Order: 4, Turn: 0, Since: 100}, impl.Due{Order: 5, Turn: 0, Since: 100})
		}
		checkDue(t, "State", c, 100, want...)
	}
	checkDue(t, "one order of each state", aChart(), 100,
		impl.Due{Order: 20, Turn: 0, Since: 90}, impl.Due{Order: 10, Turn: 0, Since: 100}, impl.Due{Order: 20, Turn: 2, Since: 130})
}

func TestDueInWhichOrder(t *testing.T) {
	at := func(id, first int64) impl.Order {
		return orderAs(id, func(o *impl.Order) { o.First, o.Every, o.Count = first, 5, 2 })
	}
	c := chartOf([]impl.Order{at(1, 110), at(2, 105), at(3, 105), at(9, 100), at(10, 110)})
	checkDue(t, "by Since, then by Order", c, 110,
		impl.Due{Order: 9, Turn: 0, Since: 100},
		impl.Due{Order: 2, Turn: 0, Since: 105}, impl.Due{Order: 3, Turn: 0, Since: 105}, impl.Due{Order: 9, Turn: 1, Since: 105},
		impl.Due{Order: 1, Turn: 0, Since: 110}, impl.Due{Order: 2, Turn: 1, Since: 110}, impl.Due{Order: 3, Turn: 1, Since: 110}, impl.Due{Order: 10, Turn: 0, Since: 110},
		impl.Due{Order: 1, Turn: 1, Since: 115}, impl.Due{Order: 10, Turn: 1, Since: 115})
}

func TestDueAtTheEndsOfTime(t *testing.T) {
	first := chartOf([]impl.Order{orderAs(4, func(o *impl.Order) { o.First, o.Count = 0, 1 })})
	checkDue(t, "due at 0, asked at 0", first, 0, impl.Due{Order: 4, Turn: 0, Since: 0})
	checkDue(t, "due at 0, asked at 60", first, 60, impl.Due{Order: 4, Turn: 0, Since: 0})
	checkDue(t, "due at 0, asked at 61", first, 61)
	last := chartOf([]impl.Order{orderAs(4, func(o *impl.Order) { o.First, o.Every, o.Count = 10000000, 15, 200 })})
	checkDue(t, "due at the last time", last, 9999970, impl.Due{Order: 4, Turn: 0, Since: 10000000})
	checkDue(t, "a minute too soon", last, 9999969)
	checkDue(t, "turns that are due behind the last time", last, 10000000,
		impl.Due{Order: 4, Turn: 0, Since: 10000000}, impl.Due{Order: 4, Turn: 1, Since: 10000015}, impl.Due{Order: 4, Turn: 2, Since: 10000030})
	for _, c := range []impl.Chart{first, last, aChart(), {}} {
		for _, time := range []int64{math.MinInt64, math.MinInt64 + 30, math.MinInt64 + 60, -61, -60, -30, -1, 10000001, 10000030, 10000060, math.MaxInt64 - 60, math.MaxInt64 - 30, math.MaxInt64} {
			checkDue(t, "no time", c, time)
		}
	}
}

func TestDueOfMany(t *testing.T) {
	c := chartOf(ordersTo(100)) // each due every minute, from 100 to 299
	if due := checkDueAsTold(t, c, 200); len(due) != 9100 {
		t.Error(len(due))
	}
	if due := checkDueAsTold(t, chartOf(ordersTo(101)), 200); len(due) != 0 {
		t.Error(len(due))
	}
	given := chartOf(ordersTo(100), dosesTo(500, 100)...)
	if due := checkDueAsTold(t, given, 200); len(due) != 97*91+31 {
		t.Error(len(due))
	}
	long := chartOf([]impl.Order{orderAs(4, func(o *impl.Order) { o.First, o.Every, o.Count = 10000000-1440*199, 1440, 200 })})
	checkDue(t, "the last of the longest order", long, 10000000, impl.Due{Order: 4, Turn: 199, Since: 10000000})
}

func TestDueAsTold(t *testing.T) {
	coins := rand.New(rand.NewSource(101))
	lengths := map[int]int{}
	for range 8000 {
		c := randomChart(coins)
		if coins.Intn(20) == 0 {
			spoilChart(coins, c)
		}
		lengths[min(3, len(checkDueAsTold(t, c, coins.Int63n(400))))]++
	}
	for length := range 4 {
		if lengths[length] < 300 {
			t.Error(lengths)
		}
	}
}

// A turn is due just where it can be given: DueAt and OrderDo tell the same.
func TestWhatIsDueCanBeGiven(t *testing.T) {
	coins := rand.New(rand.NewSource(102))
	for range 3000 {
		c := randomChart(coins)
		time := coins.Int63n(400)
		if len(c.Doses) > 0 {
			time = max(time, c.Doses[len(c.Doses)-1].Time)
		}
		due := impl.DueAt(c, time)
		for _, o := range c.Orders {
			d := giveOf(o, time)
			_, code := impl.OrderDo(c, d)
			is := slices.ContainsFunc(due, func(d impl.Due) bool { return d.Order == o.Id })
			if is != (code == 0) {
				t.Fatalf("%+v at %d: %v, but %+v is answered by %d", c, time, due, d, code)
			}
		}
	}
}
