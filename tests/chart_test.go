package tests

import (
	"math"
	"math/rand"
	"slices"
	"testing"

	"loop.example/g00060/impl"
)

// anOrder is due at 100, 300 and 500, and ready.
func anOrder(id int64) impl.Order {
	return impl.Order{Id: id, Person: 1, Drug: 2, Amount: 50, First: 100, Every: 200, Count: 3, State: 2}
}

func orderAs(id int64, change func(o *impl.Order)) impl.Order {
	o := anOrder(id)
	change(&o)
	return o
}

// doseOf is given by one person.
func doseOf(order, turn, time int64) impl.Dose {
	return impl.Dose{Order: order, Turn: turn, Time: time, By: 7, Also: -1}
}

func chartOf(orders []impl.Order, doses ...impl.Dose) impl.Chart {
	return impl.Chart{Orders: orders, Doses: doses}
}

// aChart has an order of each state, and one that takes two people.
func aChart() impl.Chart {
	return chartOf([]impl.Order{
		{Id: 10, Person: 1, Drug: 2, Amount: 50, First: 100, Every: 200, Count: 3, State: 2},
		{Id: 20, Person: 2, Drug: 3, Amount: 60, First: 90, Every: 20, Count: 5, State: 2, Two: true},
		{Id: 30, Person: 3, Drug: 4, Amount: 70, First: 100, Every: 10, Count: 4, State: 3},
		{Id: 40, Person: 1, Drug: 5, Amount: 80, First: 100, Every: 10, Count: 4, State: 4},
		{Id: 50, Person: 4, Drug: 2, Amount: 90, First: 100, Every: 10, Count: 4, State: 1},
	},
		impl.Dose{Order: 30, Turn: 2, Time: 80, By: 7, Also: -1},
		impl.Dose{Order: 20, Turn: 1, Time: 85, By: 7, Also: 8},
		impl.Dose{Order: 40, Turn: 0, Time: 85, By: 9, Also: -1})
}

func sameChart(a, b impl.Chart) bool {
	return slices.Equal(a.Orders, b.Orders) && slices.Equal(a.Doses, b.Doses)
}

func anewChart(c impl.Chart) impl.Chart {
	return impl.Chart{Orders: slices.Clone(c.Orders), Doses: slices.Clone(c.Doses)}
}

// ordersTo gives so many orders with the Ids 2, 4 and so on, each due often.
func ordersTo(count int) []impl.Order {
	orders := make([]impl.Order, count)
	for at := range orders {
		orders[at] = orderAs(2*int64(at)+2, func(o *impl.Order) { o.Every, o.Count = 1, 200 })
	}
	return orders
}

// dosesTo gives so many doses of such orders, 200 of each, at one time.
func dosesTo(count int, time int64) []impl.Dose {
	doses := make([]impl.Dose, count)
	for at := range doses {
		doses[at] = doseOf(2*int64(at/200)+2, int64(at%200), time)
	}
	return doses
}

func isOrder(o impl.Order) bool {
	return within(o.Id, 1, 100000) && within(o.Person, 0, 999) && within(o.Drug, 1, 1000) && within(o.Amount, 1, 1000000000) &&
		within(o.First, 0, 10000000) && within(o.Every, 1, 1440) && within(o.Count, 1, 200) && within(o.State, 1, 4)
}

// orderAt is the place of the first order of that Id, or -1.
func orderAt(c impl.Chart, id int64) int {
	return slices.IndexFunc(c.Orders, func(o impl.Order) bool { return o.Id == id })
}

func isDose(o impl.Order, d impl.Dose) bool {
	people := within(d.By, 0, 999) && d.Also == -1
	if o.Two {
		people = within(d.By, 0, 999) && within(d.Also, 0, 999) && d.By != d.Also
	}
	return people && within(d.Turn, 0, o.Count-1) && within(d.Time, 0, 10000000)
}

// isChart goes by the document's words, and holds each dose against each other one.
func isChart(c impl.Chart) bool {
	if len(c.Orders) > 100 || len(c.Doses) > 500 {
		return false
	}
	for at, o := range c.Orders {
		if !isOrder(o) || at > 0 && c.Orders[at-1].Id >= o.Id {
			return false
		}
	}
	for at, d := range c.Doses {
		place := orderAt(c, d.Order)
		if place < 0 || c.Orders[place].State == 1 || !isDose(c.Orders[place], d) {
			return false
		}
		for _, other := range c.Doses[:at] {
			if other.Order == d.Order && other.Turn == d.Turn || other.Time > d.Time {
				return false
			}
		}
	}
	return true
}

func checkChartOk(t *testing.T, what string, c impl.Chart, want bool) {
	t.Helper()
	if got := impl.ChartOk(c); got != want {
		t.Errorf("%s: ChartOk(%+v) = %v, want %v", what, c, got, want)
	}
	if isChart(c) != want {
		t.Errorf("%s: %+v is told wrongly by the test", what, c)
	}
	if !want {
		checkNoChart(t, what, c)
	}
}

// checkNoChart asks for the fixed answers to a chart that is not right.
func checkNoChart(t *testing.T, what string, c impl.Chart) {
	t.Helper()
	for _, time := range []int64{-1, 0, 100, 300} {
		if due := impl.DueAt(c, time); len(due) != 0 {
			t.Errorf("%s: DueAt: %v", what, due)
		}
	}
	for kind := int64(0); kind <= 6; kind++ {
		d := impl.Deed{Kind: kind, Order: orderAs(7, func(o *impl.Order) { o.State = 1 }), Id: 10, Person: 1, Drug: 2, Amount: 50, Time: 100, By: 7, Also: -1}
		if got, code := impl.OrderDo(c, d); code != 1 || len(got.Orders) != 0 || len(got.Doses) != 0 {
			t.Errorf("%s: deed %d: %+v, %d", what, kind, got, code)
		}
	}
}

// orderCase is a change of an order, and whether it is right then.
type orderCase struct {
	what   string
	change func(o *impl.Order)
	right  bool
}

func orderCases() []orderCase {
	cases := []orderCase{
		{"as it is", func(o *impl.Order) {}, true},
		{"two people", func(o *impl.Order) { o.Two = true }, true},
		{"nothing of it", func(o *impl.Order) { *o = impl.Order{} }, false},
	}
	add := func(what string, field func(o *impl.Order) *int64, right []int64, wrong []int64) {
		for _, n := range right {
			cases = append(cases, orderCase{what, func(o *impl.Order) { *field(o) = n }, true})
		}
		for _, n := range append(wrong, math.MinInt64, math.MaxInt64) {
			cases = append(cases, orderCase{what, func(o *impl.Order) { *field(o) = n }, false})
		}
	}
	add("Id", func(o *impl.Order) *int64 { return &o.Id }, []int64{1, 2, 99999, 100000}, []int64{-1, 0, 100001})
	add("Person", func(o *impl.Order) *int64 { return &o.Person }, []int64{0, 1, 998, 999}, []int64{-1, 1000})
	add("Drug", func(o *impl.Order) *int64 { return &o.Drug }, []int64{1, 2, 999, 1000}, []int64{-1, 0, 1001})
	add("Amount", func(o *impl.Order) *int64 { return &o.Amount }, []int64{1, 2, 999999999, 1000000000}, []int64{-1, 0, 1000000001})
	add("First", func(o *impl.Order) *int64 { return &o.First }, []int64{0, 1, 9999999, 10000000}, []int64{-1, 10000001})
	add("Every", func(o *impl.Order) *int64 { return &o.Every }, []int64{1, 2, 1439, 1440}, []int64{-1, 0, 1441})
	add("Count", func(o *impl.Order) *int64 { return &o.Count }, []int64{1, 2, 199, 200}, []int64{-1, 0, 201})
	add("State", func(o *impl.Order) *int64 { return &o.State }, []int64{1, 2, 3, 4}, []int64{-1, 0, 5})
	return cases
}

func TestOrdersOfAChart(t *testing.T) {
	for _, c := range orderCases() {
		o := orderAs(50, c.change)
		checkChartOk(t, c.what, chartOf([]impl.Order{o}), c.right)
		if c.what == "Id" {
			continue
		}
		before, behind := anOrder(49), anOrder(51)
		checkChartOk(t, c.what+", the first", chartOf([]impl.Order{o, behind}), c.right)
		checkChartOk(t, c.what+", the last", chartOf([]impl.Order{before, o}), c.right)
		checkChartOk(t, c.what+", between", chartOf([]impl.Order{before, o, behind}), c.right)
	}
}

func TestHowManyOrders(t *testing.T) {
	checkChartOk(t, "none", impl.Chart{}, true)
	checkChartOk(t, "none, but not nil", chartOf([]impl.Order{}, []impl.Dose{}...), true)
	for count, right := range map[int]bool{1: true, 99: true, 100: true, 101: false, 1000: false} {
		checkChartOk(t, "orders", chartOf(ordersTo(count)), right)
	}
}

func TestIdsOfOrders(t *testing.T) {
	for _, c := range []struct {
		ids   []int64
		right bool
	}{
		{[]int64{1, 2}, true}, {[]int64{1, 100000}, true}, {[]int64{1, 2, 3}, true}, {[]int64{5, 99, 100, 99999, 100000}, true},
		{[]int64{1, 1}, false}, {[]int64{2, 1}, false}, {[]int64{1, 2, 2}, false}, {[]int64{1, 1, 2}, false}, {[]int64{1, 3, 2}, false},
		{[]int64{2, 1, 3}, false}, {[]int64{3, 4, 1}, false}, {[]int64{100000, 100000}, false}, {[]int64{3, 2, 1}, false},
		{[]int64{0, 1}, false}, {[]int64{99999, 100000, 100001}, false}, {[]int64{-1, 0, 1}, false},
	} {
		var orders []impl.Order
		for _, id := range c.ids {
			orders = append(orders, anOrder(id))
		}
		checkChartOk(t, "Ids", chartOf(orders), c.right)
	}
}

func TestTurnsOfDoses(t *testing.T) {
	for _, count := range []int64{1, 2, 3, 199, 200} {
		o := orderAs(4, func(o *impl.Order) { o.Count = count })
		for _, turn := range []int64{math.MinInt64, -1, 0, count - 1, count, count + 1, 200, math.MaxInt64} {
			checkChartOk(t, "Turn", chartOf([]impl.Order{o}, doseOf(4, turn, 100)), turn >= 0 && turn < count)
		}
	}
	other := orderAs(5, func(o *impl.Order) { o.Count = 9 })
	checkChartOk(t, "a turn that another order has", chartOf([]impl.Order{anOrder(4), other}, doseOf(4, 3, 100)), false)
	checkChartOk(t, "a turn that another order has not", chartOf([]impl.Order{anOrder(4), other}, doseOf(5, 8, 100)), true)
}

func TestOrdersOfDoses(t *testing.T) {
	orders := []impl.Order{anOrder(4), anOrder(6), anOrder(9)}
	for _, id := range []int64{math.MinInt64, -1, 0, 1, 3, 4, 5, 6, 7, 8, 9, 10, 100000, 100001, math.MaxInt64} {
		checkChartOk(t, "Order", chartOf(orders, doseOf(id, 0, 100)), slices.Contains([]int64{4, 6, 9}, id))
		checkChartOk(t, "no orders", chartOf(nil, doseOf(id, 0, 100)), false)
		doses := []impl.Dose{doseOf(4, 0, 100), doseOf(id, 1, 100), doseOf(9, 0, 100)}
		checkChartOk(t, "Order, between", chartOf(orders, doses...), slices.Contains([]int64{4, 6, 9}, id))
	}
	for state := int64(0); state <= 5; state++ {
		o := orderAs(6, func(o *impl.Order) { o.State = state })
		checkChartOk(t, "State", chartOf([]impl.Order{o}, doseOf(6, 0, 100)), state >= 2 && state <= 4)
		checkChartOk(t, "State of another", chartOf([]impl.Order{anOrder(5), o, anOrder(7)}, doseOf(7, 0, 100)), state >= 1 && state <= 4)
	}
}

func TestPeopleOfDoses(t *testing.T) {
	wild := []int64{math.MinInt64, -2, -1, 0, 1, 7, 8, 998, 999, 1000, math.MaxInt64}
	for _, by := range wild {
		for _, also := range wild {
			for _, two := range []bool{false, true} {
				o := orderAs(4, func(o *impl.Order) { o.Two = two })
				right := within(by, 0, 999) && also == -1
				if two {
					right = within(by, 0, 999) && within(also, 0, 999) && by != also
				}
				dose := impl.Dose{Order: 4, Turn: 1, Time: 100, By: by, Also: also}
				checkChartOk(t, "By and Also", chartOf([]impl.Order{o}, dose), right)
			}
		}
	}
}

func TestPeopleAreAskedOfTheirOwnOrder(t *testing.T) {
	orders := []impl.Order{anOrder(4), orderAs(5, func(o *impl.Order) { o.Two = true })}
	one, two := doseOf(4, 0, 100), impl.Dose{Order: 5, Turn: 0, Time: 100, By: 7, Also: 8}
	checkChartOk(t, "each as its order takes it", chartOf(orders, one, two), true)
	one.Order, two.Order = 5, 4
	checkChartOk(t, "one for two", chartOf(orders, one), false)
	checkChartOk(t, "two for one", chartOf(orders, two), false)
}

func TestTimesOfDoses(t *testing.T) {
	for _, time := range []int64{math.MinInt64, -1, 0, 1, 9999999, 10000000, 10000001, math.MaxInt64} {
		checkChartOk(t, "Time", chartOf([]impl.Order{anOrder(4)}, doseOf(4, 0, time)), within(time, 0, 10000000))
	}
	for _, c := range []struct {
		times []int64
		right bool
	}{
		{[]int64{5, 5}, true}, {[]int64{5, 6}, true}, {[]int64{0, 0, 0}, true}, {[]int64{0, 10000000, 10000000}, true}, {[]int64{1, 1, 2}, true},
		{[]int64{6, 5}, false}, {[]int64{5, 6, 5}, false}, {[]int64{7, 5, 6}, false}, {[]int64{5, 7, 6}, false}, {[]int64{1, 0, 1}, false},
		{[]int64{-1, 0, 1}, false}, {[]int64{0, 1, 10000001}, false},
	} {
		var doses []impl.Dose
		for at, time := range c.times {
			doses = append(doses, doseOf(4, int64(len(c.times)-1-at), time))
		}
		checkChartOk(t, "Times", chartOf([]impl.Order{anOrder(4)}, doses...), c.right)
	}
	orders := []impl.Order{anOrder(4), anOrder(5)}
	checkChartOk(t, "Times that fall, of two orders", chartOf(orders, doseOf(4, 0, 300), doseOf(5, 0, 299)), false)
	checkChartOk(t, "Times that are the same, of two orders", chartOf(orders, doseOf(5, 0, 300), doseOf(4, 0, 300)), true)
}

func TestTurnsThatWereGivenTwice(t *testing.T) {
	orders := []impl.Order{anOrder(4), anOrder(5), anOrder(6)}
	for _, c := range []struct {
		what  string
		doses []impl.Dose
		right bool
	}{
		{"one turn twice", []impl.Dose{doseOf(4, 1, 100), doseOf(4, 1, 100)}, false},
		{"one turn twice, at other times", []impl.Dose{doseOf(4, 1, 100), doseOf(4, 1, 900)}, false},
		{"one turn twice, by others", []impl.Dose{{Order: 4, Turn: 1, Time: 100, By: 1, Also: -1}, {Order: 4, Turn: 1, Time: 100, By: 2, Also: -1}}, false},
		{"one turn twice, with others between", []impl.Dose{doseOf(4, 1, 100), doseOf(5, 1, 100), doseOf(4, 2, 100), doseOf(4, 1, 100)}, false},
		{"the last turn twice", []impl.Dose{doseOf(6, 0, 100), doseOf(5, 2, 100), doseOf(5, 2, 101)}, false},
		{"one turn of each order", []impl.Dose{doseOf(4, 1, 100), doseOf(5, 1, 100), doseOf(6, 1, 100)}, true},
		{"all turns of an order", []impl.Dose{doseOf(4, 2, 100), doseOf(4, 0, 100), doseOf(4, 1, 100)}, true},
		{"a turn and an order exchanged", []impl.Dose{doseOf(4, 0, 100), doseOf(6, 2, 100), doseOf(4, 2, 100), doseOf(6, 0, 100)}, true},
		{"not in its time, which a chart does not ask", []impl.Dose{doseOf(4, 2, 0), doseOf(4, 0, 9000)}, true},
	} {
		checkChartOk(t, c.what, chartOf(orders, c.doses...), c.right)
	}
	small := orderAs(1, func(o *impl.Order) { o.Count = 200 })
	great := orderAs(11, func(o *impl.Order) { o.Count = 200 })
	checkChartOk(t, "orders and turns that look alike side by side", chartOf([]impl.Order{small, great}, doseOf(1, 11, 100), doseOf(11, 1, 100), doseOf(1, 1, 100), doseOf(11, 11, 100)), true)
}

func TestHowManyDoses(t *testing.T) {
	for count, right := range map[int]bool{0: true, 1: true, 499: true, 500: true, 501: false, 600: false} {
		checkChartOk(t, "doses", chartOf(ordersTo(3), dosesTo(count, 100)...), right)
		checkChartOk(t, "doses of MaxOrders orders", chartOf(ordersTo(100), dosesTo(count, 100)...), right)
	}
	twice := dosesTo(500, 100)
	twice[499] = twice[0]
	checkChartOk(t, "the last is the first again", chartOf(ordersTo(3), twice...), false)
	late := dosesTo(500, 100)
	late[499].Time = 99
	checkChartOk(t, "the last falls", chartOf(ordersTo(3), late...), false)
}

// randomChart is mostly right; its orders are due between 0 and some 300.
func randomChart(coins *rand.Rand) impl.Chart {
	c := impl.Chart{}
	id := int64(0)
	for range coins.Intn(5) {
		id += 1 + coins.Int63n(3)
		c.Orders = append(c.Orders, impl.Order{Id: id, Person: coins.Int63n(3), Drug: 1 + coins.Int63n(3), Amount: 1 + coins.Int63n(3), First: coins.Int63n(200),
			Every: 1 + coins.Int63n(60), Count: 1 + coins.Int63n(5), State: []int64{1, 2, 2, 2, 3, 4}[coins.Intn(6)], Two: coins.Intn(3) == 0})
	}
	time := coins.Int63n(100)
	for range coins.Intn(6) {
		if len(c.Orders) == 0 {
			break
		}
		o := c.Orders[coins.Intn(len(c.Orders))]
		time += coins.Int63n(40)
		d := doseOf(o.Id, coins.Int63n(o.Count), time)
		if o.Two {
			d.Also = 8
		}
		next := chartOf(c.Orders, append(slices.Clone(c.Doses), d)...)
		if isChart(next) {
			c = next
		}
	}
	return c
}

// spoilChart makes one number of it some other one.
func spoilChart(coins *rand.Rand, c impl.Chart) {
	wild := []int64{math.MinInt64, -1, 0, 1, 2, 3, 4, 5, 8, 100, 1000, 10000001, math.MaxInt64}
	n := wild[coins.Intn(len(wild))]
	if len(c.Doses) > 0 && coins.Intn(2) == 0 {
		d := &c.Doses[coins.Intn(len(c.Doses))]
		*[]*int64{&d.Order, &d.Turn, &d.Time, &d.By, &d.Also}[coins.Intn(5)] = n
	} else if len(c.Orders) > 0 {
		o := &c.Orders[coins.Intn(len(c.Orders))]
		*[]*int64{&o.Id, &o.Person, &o.Drug, &o.Amount, &o.First, &o.Every, &o.Count, &o.State}[coins.Intn(8)] = n
	}
}

func TestChartOkOfManyCharts(t *testing.T) {
	coins := rand.New(rand.NewSource(100))
	answers := map[bool]int{}
	for range 40000 {
		c := randomChart(coins)
		for range coins.Intn(3) {
			spoilChart(coins, c)
		}
		if coins.Intn(10) == 0 {
			slices.Reverse(c.Orders)
		}
		if coins.Intn(10) == 0 {
			slices.Reverse(c.Doses)
		}
		want := isChart(c)
		if got := impl.ChartOk(c); got != want {
			t.Fatalf("ChartOk(%+v) = %v", c, got)
		}
		answers[want]++
	}
	if answers[true] < 5000 || answers[false] < 5000 {
		t.Error(answers)
	}
}
