package tests

import (
	"math"
	"math/rand"
	"slices"
	"testing"

	"loop.example/g00060/impl"
)

// randomDeed is often one that the chart takes, at about that time.
func randomDeed(coins *rand.Rand, c impl.Chart, time int64) impl.Deed {
	order := impl.Order{Id: 1 + coins.Int63n(30), Person: coins.Int63n(3), Drug: 1 + coins.Int63n(3), Amount: 1 + coins.Int63n(3), First: max(0, time-40+coins.Int63n(120)),
		Every: 1 + coins.Int63n(60), Count: 1 + coins.Int63n(5), State: 1, Two: coins.Intn(3) == 0}
	d := impl.Deed{Kind: []int64{1, 1, 1, 2, 2, 2, 3, 4, 5}[coins.Intn(9)], Order: order, Id: 1 + coins.Int63n(12), Person: coins.Int63n(3), Drug: 1 + coins.Int63n(3), Amount: 1 + coins.Int63n(3), Time: time, By: coins.Int63n(4), Also: coins.Int63n(5) - 1}
	if len(c.Orders) > 0 && coins.Intn(3) > 0 {
		o := c.Orders[coins.Intn(len(c.Orders))]
		kind := d.Kind
		d = giveOf(o, time)
		d.Order = order
		if d.Kind = kind; coins.Intn(3) > 0 {
			d.Kind = 5
		}
		if coins.Intn(3) == 0 { // nearly what the order asks for
			*[]*int64{&d.Person, &d.Drug, &d.Amount, &d.Also}[coins.Intn(4)] = []int64{-1, 1, 2, 3, 7}[coins.Intn(5)]
		}
	}
	if coins.Intn(6) == 0 {
		wild := []int64{math.MinInt64, -2, -1, 0, 1, 2, 7, 8, 1000, 1001, 100001, 10000001, math.MaxInt64}
		*[]*int64{&d.Kind, &d.Id, &d.Person, &d.Drug, &d.Amount, &d.Time, &d.By, &d.Also, &d.Order.Id, &d.Order.Every, &d.Order.Count, &d.Order.State}[coins.Intn(12)] = wild[coins.Intn(len(wild))]
	}
	return d
}

func TestDeedsOfManyCharts(t *testing.T) {
	coins := rand.New(rand.NewSource(103))
	seen := [13]int{}
	for range 60000 {
		c := randomChart(coins)
		if coins.Intn(30) == 0 {
			spoilChart(coins, c)
		}
		_, code := checkDeed(t, "random", c, randomDeed(coins, c, coins.Int63n(300)))
		seen[code]++
	}
	for code, count := range seen[:12] {
		if count < 100 {
			t.Error("too few with code", code, seen)
		}
	}
}

// All deeds of a small world, of a chart of it.
func TestAllSmallDeeds(t *testing.T) {
	c := aChart()
	for kind := int64(0); kind <= 6; kind++ {
		for _, id := range []int64{0, 5, 10, 20, 30, 40, 50} {
			for _, person := range []int64{-1, 1, 2} {
				for _, drug := range []int64{0, 2, 3} {
					for _, amount := range []int64{0, 50, 60} {
						for _, time := range []int64{-1, 29, 30, 69, 84, 85, 100, 160, 231, 300, 10000001} {
							for _, people := range [][2]int64{{7, -1}, {7, 8}, {7, 7}, {-1, -1}, {-1, 7}, {7, 1000}} {
								d := impl.Deed{Kind: kind, Order: asked(id), Id: id, Person: person, Drug: drug, Amount: amount, Time: time, By: people[0], Also: people[1]}
								checkDeed(t, "small", c, d)
							}
						}
					}
				}
			}
		}
	}
}

// checkStep looks at the charts ahead of and behind a deed, and asks for promise 12 of what came.
func checkStep(t *testing.T, c impl.Chart, d impl.Deed) (impl.Chart, int64) {
	t.Helper()
	due := impl.DueAt(c, d.Time)
	next, code := impl.OrderDo(c, d)
	if !impl.ChartOk(next) || !isChart(next) {
		t.Fatalf("%+v became %+v by %+v", c, next, d)
	}
	if code != 0 {
		if !sameChart(next, c) {
			t.Fatalf("refused with %d, but %+v became %+v", code, c, next)
		}
		return next, code
	}
	if d.Kind != 5 {
		if !slices.Equal(next.Doses, c.Doses) {
			t.Fatalf("doses came by %+v: %+v", d, next)
		}
		return next, code
	}
	if !slices.Equal(next.Orders, c.Orders) || len(next.Doses) != len(c.Doses)+1 || !slices.Equal(next.Doses[:len(c.Doses)], c.Doses) {
		t.Fatalf("%+v became %+v by %+v", c, next, d)
	}
	checkGiven(t, c, d, due, next.Doses[len(c.Doses)])
	return next, code
}

// checkGiven asks for a dose once, to the person, of the drug and the amount of the order, and in its time.
func checkGiven(t *testing.T, c impl.Chart, d impl.Deed, due []impl.Due, dose impl.Dose) {
	t.Helper()
	o := c.Orders[orderAt(c, dose.Order)]
	if wasGiven(c, dose.Order, dose.Turn) {
		t.Fatalf("%+v was given before: %+v", dose, c)
	}
	if o.Id != d.Id || o.State != 2 || d.Person != o.Person || d.Drug != o.Drug || d.Amount != o.Amount {
		t.Fatalf("%+v is given to another than %+v asks for", d, o)
	}
	since := o.First + dose.Turn*o.Every
	if dose.Time != d.Time || dose.Time < since-30 || dose.Time > since+60 {
		t.Fatalf("%+v of %+v is not in its time", dose, o)
	}
	if dose.By != d.By || dose.Also != d.Also {
		t.Fatalf("%+v is given by others than %+v says", dose, d)
	}
	first := slices.IndexFunc(due, func(d impl.Due) bool { return d.Order == dose.Order })
	if first < 0 || due[first].Turn != dose.Turn || due[first].Since != since {
		t.Fatalf("%+v is not the first of %+v", dose, due)
	}
}

// Promise 12: whatever the deeds, the chart stays right, and each turn is given once at most.
func TestARightChartStaysRight(t *testing.T) {
	coins := rand.New(rand.NewSource(104))
	given, done := 0, [6]int{}
	for range 150 {
		c := impl.Chart{}
		now := coins.Int63n(100)
		for range 250 {
			now += coins.Int63n(4)
			d := randomDeed(coins, c, now)
			next, code := checkStep(t, c, d)
			if code == 0 {
				done[d.Kind]++
			}
			c = next
		}
		turns := map[[2]int64]int{}
		for _, dose := range c.Doses {
			turns[[2]int64{dose.Order, dose.Turn}]++
		}
		for turn, count := range turns {
			if count != 1 {
				t.Fatalf("turn %v was given %d times: %+v", turn, count, c)
			}
		}
		given += len(c.Doses)
	}
	for kind := 1; kind <= 5; kind++ {
		if done[kind] < 300 {
			t.Error("too few were done:", done)
		}
	}
	if given < 1000 {
		t.Error("too few doses:", given)
	}
}

// Promise 12, where all that is due is asked for again and again: an order gives its turns, and no more.
func TestAnOrderGivesItsTurnsAndNoMore(t *testing.T) {
	for _, every := range []int64{1, 7, 30, 31, 90, 91, 1440} {
		for _, count := range []int64{1, 2, 20, 200} {
			o := orderAs(4, func(o *impl.Order) { o.First, o.Every, o.Count = 50, every, count })
			c := chartOf([]impl.Order{o})
			step := int64(1)
			if every*count > 5000 {
				step = 13 // each turn has 91 minutes in which it is met
			}
			for time := int64(0); time <= 50+every*count+100; time += step {
				for {
					next, code := checkStep(t, c, giveOf(o, time))
					if c = next; code == 0 {
						continue
					}
					if code != 9 {
						t.Fatal(code)
					}
					break
				}
			}
			if len(c.Doses) != int(count) {
				t.Fatalf("every %d minutes, %d times: %d doses", every, count, len(c.Doses))
			}
		}
	}
}

// Charts filled by deeds alone, up to their limits.
func TestChartsFilledByDeeds(t *testing.T) {
	c := impl.Chart{}
	for at := range int64(100) {
		id := (at*37)%100 + 1
		o := orderAs(id, func(o *impl.Order) { o.Every, o.Count, o.State = 1, 5, 1 })
		c, _ = checkStep(t, c, askOf(o))
		c, _ = checkStep(t, c, deedOf(2, id))
	}
	if _, code := checkStep(t, c, askOf(asked(101))); len(c.Orders) != 100 || code != 12 {
		t.Fatal(len(c.Orders), code)
	}
	for at := range 500 {
		c, _ = checkStep(t, c, giveOf(c.Orders[at%100], 100))
	}
	if len(c.Doses) != 500 || len(impl.DueAt(c, 100)) != 0 {
		t.Fatal(len(c.Doses), impl.DueAt(c, 100))
	}
	for _, o := range c.Orders {
		if _, code := checkStep(t, c, giveOf(o, 100)); code != 9 {
			t.Fatal(code)
		}
	}
}

// chartWithRoom is a chart with spare room behind its lists, and a look at all of it.
func chartWithRoom(c impl.Chart) (impl.Chart, func() impl.Chart) {
	orders := append(slices.Clone(c.Orders), impl.Order{Id: 77}, impl.Order{Id: 78}, impl.Order{Id: 79})
	doses := append(slices.Clone(c.Doses), impl.Dose{Order: 77}, impl.Dose{Order: 78}, impl.Dose{Order: 79})
	lists := impl.Chart{Orders: orders[:len(c.Orders)], Doses: doses[:len(c.Doses)]}
	return lists, func() impl.Chart { return anewChart(impl.Chart{Orders: orders, Doses: doses}) }
}

func spoilAnswer(c impl.Chart) {
	orders, doses := c.Orders[:cap(c.Orders)], c.Doses[:cap(c.Doses)]
	for at := range orders {
		orders[at] = impl.Order{Id: -9}
	}
	for at := range doses {
		doses[at] = impl.Dose{Order: -9}
	}
}

func TestChartsStayAndAnswersAreNewMemory(t *testing.T) {
	c := aChart()
	wrong := anewChart(c)
	wrong.Doses[0].Turn = 99
	for _, chart := range []impl.Chart{c, wrong, {}, chartOf(c.Orders), chartOf(c.Orders[:0], c.Doses[:0]...)} {
		for _, d := range []impl.Deed{
			askOf(asked(1)), askOf(asked(25)), askOf(asked(99)), askOf(asked(10)), askOf(anOrder(1)),
			deedOf(2, 30), deedOf(2, 50), deedOf(2, 10), deedOf(3, 10), deedOf(3, 30), deedOf(4, 20), deedOf(4, 40), deedOf(4, 7), deedOf(0, 0),
			giveOf(c.Orders[0], 100), giveOf(c.Orders[1], 100), giveOf(c.Orders[0], 84), giveOf(c.Orders[0], 200), giveOf(c.Orders[2], 100),
		} {
			lists, look := chartWithRoom(chart)
			before := look()
			impl.ChartOk(lists)
			due := impl.DueAt(lists, 100)
			kept := slices.Clone(due)
			again := impl.DueAt(lists, 100)
			clear(again[:cap(again)])
			got, _ := impl.OrderDo(lists, d)
			keptChart := anewChart(got)
			other, _ := impl.OrderDo(lists, d)
			spoilAnswer(other)
			if !sameChart(look(), before) {
				t.Fatalf("%+v: an argument was written into, or shares memory with an answer", d)
			}
			if !sameChart(got, keptChart) || !slices.Equal(due, kept) {
				t.Fatalf("%+v: two answers share memory", d)
			}
		}
	}
}
