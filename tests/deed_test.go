package tests

import (
	"math"
	"math/bits"
	"slices"
	"testing"

	"loop.example/g00060/impl"
)

// giveOf is a right deed for that order, whatever is due.
func giveOf(o impl.Order, time int64) impl.Deed {
	d := impl.Deed{Kind: 5, Id: o.Id, Person: o.Person, Drug: o.Drug, Amount: o.Amount, Time: time, By: 7, Also: -1}
	if o.Two {
		d.Also = 8
	}
	return d
}

func deedAs(d impl.Deed, change func(d *impl.Deed)) impl.Deed {
	change(&d)
	return d
}

// asked is an order that may be asked for.
func asked(id int64) impl.Order {
	return orderAs(id, func(o *impl.Order) { o.State = 1 })
}

func askOf(o impl.Order) impl.Deed { return impl.Deed{Kind: 1, Order: o} }

func deedOf(kind, id int64) impl.Deed { return impl.Deed{Kind: kind, Id: id} }

// statesFor tells for the kinds 2 to 5 the states that they are for.
var statesFor = [6][]int64{2: {1, 3}, 3: {2}, 4: {1, 2, 3}, 5: {2}}

func isDeed(d impl.Deed) bool {
	switch d.Kind {
	case 1:
		return isOrder(d.Order) && d.Order.State == 1
	case 2, 3, 4:
		return within(d.Id, 1, 100000)
	case 5:
		return within(d.Id, 1, 100000) && within(d.Person, 0, 999) && within(d.Drug, 1, 1000) && within(d.Amount, 1, 1000000000) &&
			within(d.Time, 0, 10000000) && within(d.By, 0, 999) && within(d.Also, -1, 999)
	}
	return false
}

// firstTurnDue is the first turn of the order that is due at time, by minutes; -1: none.
func firstTurnDue(c impl.Chart, o impl.Order, time int64) int64 {
	for away := int64(-60); away <= 30; away++ {
		if turn := turnAt(o, time+away); turn >= 0 && !wasGiven(c, o.Id, turn) {
			return turn
		}
	}
	return -1
}

// wantedDeedCodes tells all codes that apply; the least of them is named first.
func wantedDeedCodes(c impl.Chart, d impl.Deed) []int64 {
	var codes []int64
	add := func(code int64, applies bool) {
		if applies {
			codes = append(codes, code)
		}
	}
	asks, gives := d.Kind == 1, d.Kind == 5
	add(12, asks && len(c.Orders) >= 100 || gives && len(c.Doses) >= 500)
	add(11, gives && len(c.Doses) > 0 && d.Time < c.Doses[len(c.Doses)-1].Time)
	at := orderAt(c, d.Id)
	if gives && at >= 0 {
		o := c.Orders[at]
		add(10, o.Two && d.Also == -1 || !o.Two && d.Also != -1 || d.Also == d.By)
		add(9, within(o.Count, 1, 200) && firstTurnDue(c, o, d.Time) < 0)
		add(8, d.Amount != o.Amount)
		add(7, d.Drug != o.Drug)
		add(6, d.Person != o.Person)
	}
	if within(d.Kind, 2, 5) {
		add(5, at >= 0 && !slices.Contains(statesFor[d.Kind], c.Orders[at].State))
		add(4, at < 0)
	}
	add(3, asks && orderAt(c, d.Order.Id) >= 0)
	add(2, !isDeed(d))
	add(1, !isChart(c))
	return codes
}

// wantedDeed has a line for each line of the document's table.
func wantedDeed(c impl.Chart, d impl.Deed) (impl.Chart, int64) {
	if codes := wantedDeedCodes(c, d); len(codes) > 0 {
		if slices.Min(codes) == 1 {
			return impl.Chart{}, 1
		}
		return c, slices.Min(codes)
	}
	next := anewChart(c)
	at := orderAt(c, d.Id)
	switch d.Kind {
	case 1:
		next.Orders = append(next.Orders, d.Order)
		slices.SortFunc(next.Orders, func(a, b impl.Order) int { return int(a.Id - b.Id) })
	case 2:
		next.Orders[at].State = 2
	case 3:
		next.Orders[at].State = 3
	case 4:
		next.Orders[at].State = 4
	case 5:
		next.Doses = append(next.Doses, impl.Dose{Order: d.Id, Turn: firstTurnDue(c, c.Orders[at], d.Time), Time: d.Time, By: d.By, Also: d.Also})
	}
	return next, 0
}

// checkDeed holds OrderDo against the oracle.
func checkDeed(t *testing.T, what string, c impl.Chart, d impl.Deed) (impl.Chart, int64) {
	t.Helper()
	want, wantCode := wantedDeed(c, d)
	got, code := impl.OrderDo(c, d)
	if code != wantCode || !sameChart(got, want) {
		t.Fatalf("%s: OrderDo(%+v, %+v) = %+v, %d, want %+v, %d", what, c, d, got, code, want, wantCode)
	}
	return got, code
}

func checkDeedCode(t *testing.T, what string, c impl.Chart, d impl.Deed, code int64) impl.Chart {
	t.Helper()
	next, got := checkDeed(t, what, c, d)
	if got != code {
		t.Errorf("%s: %d, want %d", what, got, code)
	}
	if code > 1 && !sameChart(next, c) {
		t.Errorf("%s: refused with %d, but it became %+v", what, code, next)
	}
	return next
}

func TestAnOrderFromAskingToItsEnd(t *testing.T) {
	c := impl.Chart{}
	order := orderAs(4, func(o *impl.Order) { o.State, o.Two = 1, true })
	give := giveOf(order, 110)
	for _, step := range []struct {
		deed  impl.Deed
		code  int64
		state int64
		doses []impl.Dose
	}{
		{askOf(order), 0, 1, nil},
		{give, 5, 1, nil},
		{deedOf(3, 4), 5, 1, nil},
		{deedOf(2, 4), 0, 2, nil},
		{deedOf(2, 4), 5, 2, nil},
		{deedOf(3, 4), 0, 3, nil},
		{give, 5, 3, nil},
		{deedOf(3, 4), 5, 3, nil},
		{deedOf(2, 4), 0, 2, nil},
		{give, 0, 2, []impl.Dose{{Order: 4, Turn: 0, Time: 110, By: 7, Also: 8}}},
		{give, 9, 2, []impl.Dose{{Order: 4, Turn: 0, Time: 110, By: 7, Also: 8}}},
		{askOf(order), 3, 2, []impl.Dose{{Order: 4, Turn: 0, Time: 110, By: 7, Also: 8}}},
		{deedAs(give, func(d *impl.Deed) { d.Time, d.By, d.Also = 290, 9, 0 }), 0, 2, []impl.Dose{{Order: 4, Turn: 0, Time: 110, By: 7, Also: 8}, {Order: 4, Turn: 1, Time: 290, By: 9, Also: 0}}},
		{deedOf(4, 4), 0, 4, []impl.Dose{{Order: 4, Turn: 0, Time: 110, By: 7, Also: 8}, {Order: 4, Turn: 1, Time: 290, By: 9, Also: 0}}},
		{deedAs(give, func(d *impl.Deed) { d.Time = 500 }), 5, 4, []impl.Dose{{Order: 4, Turn: 0, Time: 110, By: 7, Also: 8}, {Order: 4, Turn: 1, Time: 290, By: 9, Also: 0}}},
		{deedOf(4, 4), 5, 4, []impl.Dose{{Order: 4, Turn: 0, Time: 110, By: 7, Also: 8}, {Order: 4, Turn: 1, Time: 290, By: 9, Also: 0}}},
	} {
		next, code := impl.OrderDo(c, step.deed)
		then := order
		then.State = step.state
		if want := chartOf([]impl.Order{then}, step.doses...); code != step.code || !sameChart(next, want) {
			t.Fatalf("%+v: %+v, %d", step.deed, next, code)
		}
		c = next
	}
}

func TestKindsOfDeeds(t *testing.T) {
	for _, kind := range []int64{math.MinInt64, -1, 0, 6, 7, math.MaxInt64} {
		d := giveOf(anOrder(4), 100)
		d.Kind, d.Order = kind, asked(5)
		checkDeedCode(t, "no kind", chartOf([]impl.Order{anOrder(4)}), d, 2)
		checkDeedCode(t, "no kind, no orders", impl.Chart{}, d, 2)
	}
	checkDeedCode(t, "the zero deed", aChart(), impl.Deed{}, 2)
}

func TestAskWhatIsNotAsTold(t *testing.T) {
	for _, c := range orderCases() {
		o := orderAs(50, func(o *impl.Order) { o.State = 1; c.change(o) })
		code := int64(2)
		if c.right && o.State == 1 {
			code = 0
		}
		checkDeedCode(t, c.what, impl.Chart{}, askOf(o), code)
		checkDeedCode(t, c.what, chartOf([]impl.Order{anOrder(30), anOrder(60)}), askOf(o), code)
	}
	for state := int64(0); state <= 5; state++ {
		o := orderAs(50, func(o *impl.Order) { o.State = state })
		code := int64(2)
		if state == 1 {
			code = 0
		}
		checkDeedCode(t, "State", impl.Chart{}, askOf(o), code)
	}
}

func TestAskComesToItsPlace(t *testing.T) {
	orders := []impl.Order{anOrder(10), anOrder(20), anOrder(30)}
	doses := []impl.Dose{doseOf(10, 0, 100), doseOf(30, 0, 100)}
	for _, r := range []struct{ id, place int64 }{{1, 0}, {9, 0}, {11, 1}, {15, 1}, {19, 1}, {21, 2}, {29, 2}, {31, 3}, {99999, 3}, {100000, 3}} {
		want := chartOf(slices.Insert(slices.Clone(orders), int(r.place), asked(r.id)), doses...)
		if next := checkDeedCode(t, "a place", chartOf(orders, doses...), askOf(asked(r.id)), 0); !sameChart(next, want) {
			t.Errorf("%d: %+v", r.id, next)
		}
	}
	for _, id := range []int64{1, 50, 100000} {
		if next := checkDeedCode(t, "the first of all", impl.Chart{}, askOf(asked(id)), 0); !slices.Equal(next.Orders, []impl.Order{asked(id)}) {
			t.Errorf("%d: %+v", id, next)
		}
	}
	for _, id := range []int64{10, 20, 30} {
		checkDeedCode(t, "there already", chartOf(orders, doses...), askOf(asked(id)), 3)
	}
	all := orderAs(15, func(o *impl.Order) {
		*o = impl.Order{Id: 15, Person: 999, Drug: 1000, Amount: 1000000000, First: 10000000, Every: 1440, Count: 200, State: 1, Two: true}
	})
	if next := checkDeedCode(t, "all of it", chartOf(orders), askOf(all), 0); next.Orders[1] != all {
		t.Errorf("%+v", next)
	}
}

func TestStatesOfDeeds(t *testing.T) {
	becomes := map[int64][5]int64{2: {1: 2, 3: 2}, 3: {2: 3}, 4: {1: 4, 2: 4, 3: 4}}
	for kind, row := range becomes {
		for state := int64(1); state <= 4; state++ {
			o := orderAs(20, func(o *impl.Order) { o.State = state })
			var doses []impl.Dose
			if state != 1 {
				doses = append(doses, doseOf(20, 0, 100))
			}
			c := chartOf([]impl.Order{anOrder(10), o, asked(30)}, doses...)
			code := int64(0)
			if row[state] == 0 {
				code = 5
			}
			next := checkDeedCode(t, "a state", c, deedOf(kind, 20), code)
			want := anewChart(c)
			if code == 0 {
				want.Orders[1].State = row[state]
			}
			if !sameChart(next, want) {
				t.Errorf("deed %d in state %d: %+v", kind, state, next)
			}
		}
	}
	for state := int64(1); state <= 4; state++ {
		o := orderAs(20, func(o *impl.Order) { o.State = state })
		code := int64(5)
		if state == 2 {
			code = 0
		}
		checkDeedCode(t, "give", chartOf([]impl.Order{o}), giveOf(o, 100), code)
	}
}

func TestIdsOfDeeds(t *testing.T) {
	orders := []impl.Order{anOrder(1), orderAs(50, func(o *impl.Order) { o.State = 3 }), orderAs(100000, func(o *impl.Order) { o.State = 3 })}
	for _, kind := range []int64{2, 3, 4, 5} {
		for id, code := range map[int64]int64{math.MinInt64: 2, -1: 2, 0: 2, 2: 4, 49: 4, 51: 4, 99999: 4, 100001: 2, math.MaxInt64: 2} {
			d := giveOf(anOrder(id), 100)
			d.Kind = kind
			checkDeedCode(t, "Id", chartOf(orders), d, code)
		}
		checkDeedCode(t, "no orders", impl.Chart{}, deedAs(giveOf(anOrder(1), 100), func(d *impl.Deed) { d.Kind = kind }), 4)
	}
	for _, id := range []int64{1, 50, 100000} {
		checkDeedCode(t, "Id of an order", chartOf(orders), deedOf(4, id), 0)
	}
}

func TestGiveWhatIsNotAsTold(t *testing.T) {
	c := chartOf([]impl.Order{anOrder(4)})
	change := func(what string, field func(d *impl.Deed) *int64, codes map[int64]int64) {
		for n, code := range codes {
			checkDeedCode(t, what, c, deedAs(giveOf(anOrder(4), 100), func(d *impl.Deed) { *field(d) = n }), code)
		}
		for _, n := range []int64{math.MinInt64, math.MaxInt64} {
			checkDeedCode(t, what, c, deedAs(giveOf(anOrder(4), 100), func(d *impl.Deed) { *field(d) = n }), 2)
		}
	}
	change("Person", func(d *impl.Deed) *int64 { return &d.Person }, map[int64]int64{-1: 2, 0: 6, 1: 0, 2: 6, 999: 6, 1000: 2})
	change("Drug", func(d *impl.Deed) *int64 { return &d.Drug }, map[int64]int64{-1: 2, 0: 2, 1: 7, 2: 0, 3: 7, 1000: 7, 1001: 2})
	change("Amount", func(d *impl.Deed) *int64 { return &d.Amount }, map[int64]int64{-1: 2, 0: 2, 1: 8, 49: 8, 50: 0, 51: 8, 1000000000: 8, 1000000001: 2})
	change("Time", func(d *impl.Deed) *int64 { return &d.Time }, map[int64]int64{-1: 2, 0: 9, 69: 9, 70: 0, 160: 0, 161: 9, 10000000: 9, 10000001: 2})
	change("By", func(d *impl.Deed) *int64 { return &d.By }, map[int64]int64{-2: 2, -1: 2, 0: 0, 1: 0, 999: 0, 1000: 2})
	change("Also", func(d *impl.Deed) *int64 { return &d.Also }, map[int64]int64{-2: 2, -1: 0, 0: 10, 7: 10, 8: 10, 999: 10, 1000: 2})
}

func TestGiveByOneAndByTwo(t *testing.T) {
	for _, r := range []struct {
		two      bool
		by, also int64
		code     int64
	}{
		{false, 7, -1, 0}, {false, 0, -1, 0}, {false, 999, -1, 0}, {false, 7, 8, 10}, {false, 7, 0, 10}, {false, 7, 7, 10}, {false, 0, 0, 10},
		{true, 7, 8, 0}, {true, 8, 7, 0}, {true, 0, 999, 0}, {true, 999, 0, 0}, {true, 7, -1, 10}, {true, 7, 7, 10}, {true, 0, 0, 10}, {true, 999, 999, 10}, {true, 0, -1, 10},
		{true, -1, 8, 2}, {true, -1, -1, 2}, {false, -1, -1, 2}, {true, 1000, 8, 2}, {true, 7, 1000, 2}, {true, 1000, 1000, 2}, {true, 7, -2, 2}, {false, 7, -2, 2}, {false, 7, 1000, 2},
	} {
		o := orderAs(4, func(o *impl.Order) { o.Two = r.two })
		d := deedAs(giveOf(o, 100), func(d *impl.Deed) { d.By, d.Also = r.by, r.also })
		next := checkDeedCode(t, "people", chartOf([]impl.Order{o}), d, r.code)
		if dose := (impl.Dose{Order: 4, Turn: 0, Time: 100, By: r.by, Also: r.also}); r.code == 0 && !slices.Equal(next.Doses, []impl.Dose{dose}) {
			t.Errorf("%+v: %+v", r, next)
		}
	}
	// Who gives may be the one to whom it is given: the document does not rule it out.
	checkDeedCode(t, "to oneself", chartOf([]impl.Order{anOrder(4)}), deedAs(giveOf(anOrder(4), 100), func(d *impl.Deed) { d.By = 1 }), 0)
}

func TestGiveInItsTime(t *testing.T) {
	c := chartOf([]impl.Order{anOrder(4)}) // due at 100, 300 and 500
	for _, r := range []struct{ time, code, turn int64 }{
		{0, 9, 0}, {69, 9, 0}, {70, 0, 0}, {100, 0, 0}, {160, 0, 0}, {161, 9, 0}, {269, 9, 0}, {270, 0, 1}, {300, 0, 1}, {360, 0, 1}, {361, 9, 0},
		{469, 9, 0}, {470, 0, 2}, {500, 0, 2}, {560, 0, 2}, {561, 9, 0}, {670, 9, 0}, {700, 9, 0}, {10000000, 9, 0},
	} {
		next := checkDeedCode(t, "a time", c, giveOf(anOrder(4), r.time), r.code)
		if r.code == 0 && !slices.Equal(next.Doses, []impl.Dose{doseOf(4, r.turn, r.time)}) {
			t.Errorf("%+v: %+v", r, next)
		}
	}
	last := orderAs(4, func(o *impl.Order) { o.First, o.Every, o.Count = 9999990, 40, 9 })
	given := chartOf([]impl.Order{last}, doseOf(4, 0, 9999999))
	if next := checkDeedCode(t, "a turn that is due at the end of time, and behind it", given, giveOf(last, 10000000), 0); next.Doses[1] != doseOf(4, 1, 10000000) {
		t.Errorf("%+v", next)
	}
	checkDeedCode(t, "a turn that is due too far behind it", given, giveOf(last, 9999999), 9)
}

func TestGiveTheFirstOfSeveral(t *testing.T) {
	o := orderAs(4, func(o *impl.Order) { o.Every, o.Count = 10, 6 }) // due from 100 to 150
	c := chartOf([]impl.Order{anOrder(3), o}, doseOf(4, 1, 90))
	for _, r := range []struct{ time, turn int64 }{{100, 0}, {100, 2}, {100, 3}, {110, 4}, {130, 5}} {
		next := checkDeedCode(t, "the first that is due", c, giveOf(o, r.time), 0)
		if next.Doses[len(next.Doses)-1] != doseOf(4, r.turn, r.time) {
			t.Errorf("%+v: %+v", r, next)
		}
		c = next
	}
	checkDeedCode(t, "none is left", c, giveOf(o, 140), 9)
	missed := chartOf([]impl.Order{o})
	if next := checkDeedCode(t, "the first was missed", missed, giveOf(o, 161), 0); next.Doses[0] != doseOf(4, 1, 161) {
		t.Errorf("%+v", next)
	}
	if next := checkDeedCode(t, "the first was just not missed", missed, giveOf(o, 160), 0); next.Doses[0] != doseOf(4, 0, 160) {
		t.Errorf("%+v", next)
	}
	other := orderAs(5, func(o *impl.Order) { o.First = 90 })
	both := chartOf([]impl.Order{o, other})
	if next := checkDeedCode(t, "what another has due first is not asked", both, giveOf(o, 100), 0); next.Doses[0] != doseOf(4, 0, 100) {
		t.Errorf("%+v", next)
	}
}

func TestGiveBehindTheLastDose(t *testing.T) {
	orders := []impl.Order{anOrder(4), anOrder(5)}
	for _, last := range []impl.Dose{doseOf(4, 2, 100), doseOf(5, 2, 100)} {
		c := chartOf(orders, doseOf(5, 1, 50), last)
		for time, code := range map[int64]int64{49: 9, 70: 11, 99: 11, 100: 0, 101: 0, 160: 0} {
			checkDeedCode(t, "a time", c, giveOf(anOrder(4), time), code)
		}
	}
	checkDeedCode(t, "no dose yet", chartOf(orders), giveOf(anOrder(4), 70), 0)
	zero := orderAs(4, func(o *impl.Order) { o.First = 0 })
	checkDeedCode(t, "no dose yet, at 0", chartOf([]impl.Order{zero}), giveOf(zero, 0), 0)
	checkDeedCode(t, "at 0 as the last", chartOf([]impl.Order{zero}, doseOf(4, 2, 0)), giveOf(zero, 0), 0)
}

func TestFullCharts(t *testing.T) {
	full := chartOf(ordersTo(100), doseOf(2, 0, 100))
	checkDeedCode(t, "one order more", full, askOf(asked(1)), 12)
	checkDeedCode(t, "one order more, at the end", full, askOf(asked(100000)), 12)
	checkDeedCode(t, "an order that is there", full, askOf(asked(200)), 3)
	checkDeedCode(t, "an order that is none", full, askOf(asked(0)), 2)
	checkDeedCode(t, "a dose of as many orders", full, giveOf(full.Orders[99], 100), 0)
	checkDeedCode(t, "a state of as many orders", full, deedOf(3, 200), 0)
	checkDeedCode(t, "the last that fits", chartOf(ordersTo(99)), askOf(asked(1)), 0)

	given := chartOf(ordersTo(3), dosesTo(500, 100)...) // 100 of the last order
	d := giveOf(given.Orders[2], 200)
	checkDeedCode(t, "one dose more", given, d, 12)
	checkDeedCode(t, "one dose more, too soon for it all", given, deedAs(d, func(d *impl.Deed) { d.Time = 99 }), 9)
	checkDeedCode(t, "one dose more, late", chartOf(ordersTo(3), dosesTo(500, 201)...), d, 11)
	checkDeedCode(t, "one dose more, by too many", given, deedAs(d, func(d *impl.Deed) { d.Also = 8 }), 10)
	checkDeedCode(t, "an order for as many doses", given, askOf(asked(1)), 0)
	checkDeedCode(t, "a state for as many doses", given, deedOf(4, 6), 0)
	checkDeedCode(t, "the last dose that fits", chartOf(ordersTo(3), dosesTo(499, 100)...), d, 0)
	both := chartOf(ordersTo(100), dosesTo(500, 100)...)
	checkDeedCode(t, "full of both, an order", both, askOf(asked(1)), 12)
	checkDeedCode(t, "full of both, a dose", both, giveOf(both.Orders[50], 150), 12)
	checkDeedCode(t, "full of both, an end", both, deedOf(4, 100), 0)
}

func TestWhatADeedDoesNotUse(t *testing.T) {
	c := aChart()
	for _, n := range []int64{math.MinInt64, -2, -1, 0, 1, 10, 1000, 100001, math.MaxInt64} {
		wild := impl.Deed{Order: impl.Order{Id: n, Person: n, Drug: n, Amount: n, First: n, Every: n, Count: n, State: n, Two: true},
			Id: n, Person: n, Drug: n, Amount: n, Time: n, By: n, Also: n}
		checkDeedCode(t, "DdAsk", c, deedAs(wild, func(d *impl.Deed) { d.Kind, d.Order = 1, asked(7) }), 0)
		for kind, ids := range map[int64][]int64{2: {30, 50}, 3: {10, 20}, 4: {10, 20, 30, 50}} {
			for _, id := range ids {
				checkDeedCode(t, "a state", c, deedAs(wild, func(d *impl.Deed) { d.Kind, d.Id = kind, id }), 0)
			}
		}
		give := giveOf(c.Orders[0], 100)
		give.Order = wild.Order
		checkDeedCode(t, "DdGive", c, give, 0)
		checkDeedCode(t, "no kind", c, wild, 2)
	}
}

// Each code in a deed to which it alone applies.
func TestEachCodeOfADeedAlone(t *testing.T) {
	c := aChart()
	one := giveOf(c.Orders[0], 100)
	wrong := anewChart(c)
	wrong.Orders[3].Every = 0
	for _, r := range []struct {
		c    impl.Chart
		d    impl.Deed
		code int64
	}{
		{c, one, 0}, {c, askOf(asked(7)), 0}, {c, deedOf(2, 50), 0}, {c, deedOf(3, 10), 0}, {c, deedOf(4, 10), 0},
		{wrong, one, 1}, {wrong, askOf(asked(7)), 1}, {wrong, deedOf(2, 50), 1}, {wrong, deedOf(3, 10), 1}, {wrong, deedOf(4, 10), 1},
		{c, deedAs(one, func(d *impl.Deed) { d.Kind = 0 }), 2}, {c, askOf(anOrder(7)), 2}, {c, askOf(impl.Order{}), 2}, {c, deedAs(one, func(d *impl.Deed) { d.By = 1000 }), 2},
		{c, askOf(asked(30)), 3},
		{c, deedOf(2, 31), 4}, {c, deedOf(3, 9), 4}, {c, deedOf(4, 51), 4}, {c, deedAs(one, func(d *impl.Deed) { d.Id = 11 }), 4},
		{c, deedOf(2, 10), 5}, {c, deedOf(3, 30), 5}, {c, deedOf(4, 40), 5}, {c, giveOf(c.Orders[2], 100), 5}, {c, giveOf(c.Orders[3], 100), 5}, {c, giveOf(c.Orders[4], 100), 5},
		{c, deedAs(one, func(d *impl.Deed) { d.Person = 2 }), 6},
		{c, deedAs(one, func(d *impl.Deed) { d.Drug = 3 }), 7},
		{c, deedAs(one, func(d *impl.Deed) { d.Amount = 51 }), 8},
		{c, deedAs(one, func(d *impl.Deed) { d.Time = 200 }), 9},
		{c, deedAs(one, func(d *impl.Deed) { d.Also = 8 }), 10}, {c, deedAs(giveOf(c.Orders[1], 100), func(d *impl.Deed) { d.Also = -1 }), 10}, {c, deedAs(giveOf(c.Orders[1], 100), func(d *impl.Deed) { d.Also = 7 }), 10},
		{c, deedAs(one, func(d *impl.Deed) { d.Time = 84 }), 11},
		{chartOf(ordersTo(100)), askOf(asked(7)), 12}, {chartOf(ordersTo(3), dosesTo(500, 100)...), giveOf(ordersTo(3)[2], 200), 12},
	} {
		checkDeedCode(t, "alone", r.c, r.d, r.code)
		codes := wantedDeedCodes(r.c, r.d)
		if r.code != 0 && !slices.Equal(codes, []int64{r.code}) {
			t.Errorf("%+v: %v apply", r.d, codes)
		}
	}
}

// chosenGive is a deed of a chart to which just the chosen codes apply (bit 5 stands for code 5), as far as they can be told together.
func chosenGive(chosen int) (impl.Chart, impl.Deed) {
	c := chartOf(ordersTo(3), dosesTo(1, 50)...)
	if chosen>>12&1 == 1 {
		c.Doses = dosesTo(500, 50)
	}
	c.Orders[2].Every = 200 // turn 100, the first that was not given, is due at 20100
	d := giveOf(c.Orders[2], 20100)
	for code, apply := range map[int]func(){
		1:  func() { c.Orders[0].Amount = 0 },
		2:  func() { d.By = -1 },
		4:  func() { d.Id = 7 },
		5:  func() { c.Orders[2].State = 3 },
		6:  func() { d.Person = 9 },
		7:  func() { d.Drug = 9 },
		8:  func() { d.Amount = 9 },
		9:  func() { d.Time = 20200 },
		10: func() { d.Also = 8 },
		11: func() { c.Doses[len(c.Doses)-1].Time = 30000 },
	} {
		if chosen>>code&1 == 1 {
			apply()
		}
	}
	return c, d
}

func TestWhichCodeOfAGiveComesFirst(t *testing.T) {
	for chosen := 0; chosen < 1<<13; chosen += 2 {
		if chosen>>3&1 == 1 {
			continue // OrThere is none of a give's codes
		}
		code := int64(0)
		if chosen > 0 {
			code = int64(bits.TrailingZeros(uint(chosen)))
		}
		c, d := chosenGive(chosen)
		checkDeedCode(t, "some codes", c, d, code)
	}
}

func TestWhichCodeOfAnAskComesFirst(t *testing.T) {
	full, wrong := chartOf(ordersTo(100)), chartOf(ordersTo(101))
	for _, r := range []struct {
		c    impl.Chart
		d    impl.Deed
		code int64
	}{
		{wrong, askOf(asked(1)), 1}, {wrong, askOf(asked(2)), 1}, {wrong, askOf(anOrder(2)), 1}, {wrong, deedOf(0, 0), 1}, {wrong, deedOf(2, 1), 1},
		{full, askOf(anOrder(2)), 2}, {full, askOf(anOrder(1)), 2}, {full, askOf(orderAs(2, func(o *impl.Order) { o.State, o.Every = 1, 0 })), 2},
		{full, askOf(asked(2)), 3}, {full, askOf(asked(200)), 3},
	} {
		checkDeedCode(t, "several", r.c, r.d, r.code)
		if codes := wantedDeedCodes(r.c, r.d); len(codes) < 2 {
			t.Errorf("%+v: %v alone", r.d, codes)
		}
	}
}
