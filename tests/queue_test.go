package tests

import (
	"math"
	"math/rand"
	"slices"
	"testing"

	"loop.example/g00060/impl"
)

func isQueue(q []impl.Waiting) bool {
	if len(q) > 200 {
		return false
	}
	for i, a := range q {
		if !within(a.Person, 0, 999) || !within(a.Urgency, 1, 5) || !within(a.Since, 0, 10000000) {
			return false
		}
		for j, b := range q {
			if i != j && a.Person == b.Person {
				return false
			}
		}
	}
	return true
}

// urgencyThen takes the hours off one by one, as the document says it.
func urgencyThen(w impl.Waiting, time int64) int64 {
	urgency := w.Urgency
	if urgency == 5 {
		return 2
	}
	for minutes := time - w.Since; minutes >= 60 && urgency > 2; minutes -= 60 {
		urgency--
	}
	return urgency
}

func seenAhead(a, b impl.Waiting, time int64) bool {
	first := []int64{urgencyThen(a, time), a.Since, a.Person}
	return slices.Compare(first, []int64{urgencyThen(b, time), b.Since, b.Person}) < 0
}

// wantedOrder puts each one where the number of those ahead of it says.
func wantedOrder(q []impl.Waiting, time int64) []int64 {
	if !isQueue(q) || !within(time, 0, 10000000) {
		return nil
	}
	order := make([]int64, len(q))
	for i, a := range q {
		ahead := 0
		for _, b := range q {
			if seenAhead(b, a, time) {
				ahead++
			}
		}
		order[ahead] = int64(i)
	}
	return order
}

func checkOrder(t *testing.T, q []impl.Waiting, time int64) {
	t.Helper()
	if got, want := impl.SeenOrder(q, time), wantedOrder(q, time); !slices.Equal(got, want) {
		t.Fatalf("SeenOrder(%v, %d) = %v, want %v", q, time, got, want)
	}
}

// queueOf has count who wait, all of them alike but for their number.
func queueOf(count int) []impl.Waiting {
	var q []impl.Waiting
	for i := range int64(count) {
		q = append(q, impl.Waiting{Person: i, Urgency: 3, Since: 7})
	}
	return q
}

func randomQueue(coins *rand.Rand, most int, span int64) []impl.Waiting {
	persons := coins.Perm(1000)
	q := make([]impl.Waiting, coins.Intn(most+1))
	for at := range q {
		q[at] = impl.Waiting{Person: int64(persons[at]), Urgency: 1 + coins.Int63n(5), Since: coins.Int63n(span)}
	}
	return q
}

func TestQueueOk(t *testing.T) {
	right := map[string][]impl.Waiting{
		"nobody":       nil,
		"an empty one": {},
		"person 0":     {{Person: 0, Urgency: 1, Since: 5}},
		"person 999":   {{Person: 999, Urgency: 1, Since: 5}},
		"urgency 1":    {{Person: 4, Urgency: 1, Since: 5}},
		"urgency 2":    {{Person: 4, Urgency: 2, Since: 5}},
		"urgency 3":    {{Person: 4, Urgency: 3, Since: 5}},
		"urgency 4":    {{Person: 4, Urgency: 4, Since: 5}},
		"urgency 5":    {{Person: 4, Urgency: 5, Since: 5}},
		"first time":   {{Person: 4, Urgency: 2, Since: 0}},
		"last time":    {{Person: 4, Urgency: 2, Since: 10000000}},
		"two alike":    {{Person: 4, Urgency: 2, Since: 9}, {Person: 5, Urgency: 2, Since: 9}},
		"Since falls":  {{Person: 5, Urgency: 2, Since: 9}, {Person: 4, Urgency: 2, Since: 3}},
		"199 wait":     queueOf(199),
		"200 wait":     queueOf(200),
	}
	for name, q := range right {
		if !impl.QueueOk(q) || !isQueue(q) {
			t.Errorf("%s: %v is right", name, q)
		}
	}
	wrong := map[string][]impl.Waiting{
		"zero":                {{}},
		"one person twice":    {{Person: 4, Urgency: 2, Since: 9}, {Person: 4, Urgency: 3, Since: 10}},
		"one twice, alike":    {{Person: 0, Urgency: 2, Since: 9}, {Person: 0, Urgency: 2, Since: 9}},
		"one twice, apart":    {{Person: 4, Urgency: 2}, {Person: 5, Urgency: 2}, {Person: 6, Urgency: 2}, {Person: 4, Urgency: 1}},
		"the last ones":       {{Person: 4, Urgency: 2}, {Person: 5, Urgency: 2}, {Person: 5, Urgency: 2}},
		"201 wait":            queueOf(201),
		"far too many":        queueOf(999),
		"first and last same": append(queueOf(199), impl.Waiting{Person: 0, Urgency: 3, Since: 7}),
	}
	for name, q := range wrong {
		if impl.QueueOk(q) || isQueue(q) {
			t.Errorf("%s: %v is not right", name, q)
		}
	}
}

// wrongQueues has one number that is out of range, first, between and last.
func wrongQueues() [][]impl.Waiting {
	var list [][]impl.Waiting
	for place := range 3 {
		with := func(change func(*impl.Waiting)) {
			q := []impl.Waiting{{Person: 3, Urgency: 1, Since: 1}, {Person: 1, Urgency: 3, Since: 2}, {Person: 2, Urgency: 5, Since: 3}}
			change(&q[place])
			list = append(list, q)
		}
		for _, n := range []int64{math.MinInt64, -1, 1000, 1001, math.MaxInt64} {
			with(func(w *impl.Waiting) { w.Person = n })
		}
		for _, n := range []int64{math.MinInt64, -1, 0, 6, 7, math.MaxInt64} {
			with(func(w *impl.Waiting) { w.Urgency = n })
		}
		for _, n := range []int64{math.MinInt64, -60, -1, 10000001, math.MaxInt64} {
			with(func(w *impl.Waiting) { w.Since = n })
		}
	}
	return list
}

func TestQueueOkAndSeenOrderOfWrongQueues(t *testing.T) {
	lists := append(wrongQueues(), queueOf(201), queueOf(300), append(queueOf(5), queueOf(1)...), []impl.Waiting{{}})
	for _, q := range lists {
		if impl.QueueOk(q) {
			t.Errorf("%v is not right", q)
		}
		for _, time := range []int64{-1, 0, 100, 10000000} {
			if got := impl.SeenOrder(q, time); len(got) != 0 {
				t.Errorf("SeenOrder(%v, %d) = %v", q, time, got)
			}
		}
	}
}

func TestSeenOrderAtNoTime(t *testing.T) {
	q := []impl.Waiting{{Person: 3, Urgency: 4, Since: 0}, {Person: 1, Urgency: 2, Since: 10000000}}
	for _, time := range []int64{math.MinInt64, -60, -1, 10000001, math.MaxInt64} {
		if got := impl.SeenOrder(q, time); len(got) != 0 {
			t.Errorf("at %d: %v", time, got)
		}
	}
	for _, time := range []int64{0, 10000000} {
		if got := impl.SeenOrder(q, time); len(got) != 2 {
			t.Errorf("at %d: %v", time, got)
		}
	}
	for _, time := range []int64{-1, 0, 10000000} {
		if got := impl.SeenOrder(nil, time); len(got) != 0 {
			t.Errorf("nobody at %d: %v", time, got)
		}
	}
}

// standsAs tells by which urgency somebody is seen, by holding others against them who have not waited.
func standsAs(t *testing.T, w impl.Waiting, time int64) int64 {
	t.Helper()
	for urgency := int64(1); urgency <= 4; urgency++ {
		// The other one is behind by Since or Person where the urgencies are the same.
		other := impl.Waiting{Person: w.Person + 1, Urgency: urgency, Since: max(w.Since, time)}
		if order := impl.SeenOrder([]impl.Waiting{other, w}, time); len(order) == 2 && order[0] == 1 {
			return urgency
		}
	}
	return 5
}

func TestUrgencyFallsByWholeHours(t *testing.T) {
	cases := []struct{ urgency, waited, want int64 }{
		{1, 0, 1}, {1, 59, 1}, {1, 60, 1}, {1, 1000, 1}, {1, 9000000, 1},
		{2, 0, 2}, {2, 59, 2}, {2, 60, 2}, {2, 120, 2}, {2, 9000000, 2},
		{3, 0, 3}, {3, 1, 3}, {3, 59, 3}, {3, 60, 2}, {3, 61, 2}, {3, 119, 2}, {3, 120, 2}, {3, 180, 2}, {3, 9000000, 2},
		{4, 0, 4}, {4, 1, 4}, {4, 59, 4}, {4, 60, 3}, {4, 61, 3}, {4, 119, 3}, {4, 120, 2}, {4, 121, 2}, {4, 179, 2}, {4, 180, 2}, {4, 240, 2}, {4, 9000000, 2},
		{5, 0, 2}, {5, 59, 2}, {5, 60, 2}, {5, 120, 2}, {5, 180, 2}, {5, 9000000, 2},
		{1, -1, 1}, {2, -60, 2}, {3, -1, 3}, {3, -60, 3}, {3, -1000, 3}, {4, -1, 4}, {4, -59, 4}, {4, -60, 4}, {4, -120, 4}, {4, -9000, 4}, {5, -60, 2},
	}
	for _, c := range cases {
		for _, since := range []int64{0, 61, 10000, 500000} {
			w := impl.Waiting{Person: 10, Urgency: c.urgency, Since: since}
			time := since + c.waited
			if !within(time, 0, 10000000) {
				continue
			}
			if got := standsAs(t, w, time); got != c.want {
				t.Errorf("urgency %d, %d minutes since %d: seen as %d, want %d", c.urgency, c.waited, since, got, c.want)
			}
			if got := urgencyThen(w, time); got != c.want {
				t.Errorf("urgency %d, %d minutes: the oracle tells %d, want %d", c.urgency, c.waited, got, c.want)
			}
		}
	}
}

func TestSeenOrder(t *testing.T) {
	cases := []struct {
		what string
		q    []impl.Waiting
		time int64
		want []int64
	}{
		{"nobody", nil, 5, nil},
		{"one", []impl.Waiting{{Person: 8, Urgency: 4, Since: 3}}, 5, []int64{0}},
		{"by urgency", []impl.Waiting{{Person: 1, Urgency: 4, Since: 0}, {Person: 2, Urgency: 3, Since: 1}, {Person: 3, Urgency: 2, Since: 2}, {Person: 4, Urgency: 1, Since: 3}}, 50, []int64{3, 2, 1, 0}},
		{"5 counts as 2", []impl.Waiting{{Person: 1, Urgency: 3, Since: 10}, {Person: 2, Urgency: 5, Since: 20}, {Person: 3, Urgency: 2, Since: 15}, {Person: 4, Urgency: 2, Since: 25}, {Person: 5, Urgency: 1, Since: 30}}, 40, []int64{4, 2, 1, 3, 0}},
		{"3 becomes 2", []impl.Waiting{{Person: 1, Urgency: 2, Since: 50}, {Person: 2, Urgency: 3, Since: 10}}, 70, []int64{1, 0}},
		{"3 is not 2 yet", []impl.Waiting{{Person: 1, Urgency: 2, Since: 50}, {Person: 2, Urgency: 3, Since: 10}}, 69, []int64{0, 1}},
		{"4 becomes 3", []impl.Waiting{{Person: 1, Urgency: 3, Since: 50}, {Person: 2, Urgency: 4, Since: 10}}, 70, []int64{1, 0}},
		{"4 is not 3 yet", []impl.Waiting{{Person: 1, Urgency: 3, Since: 50}, {Person: 2, Urgency: 4, Since: 10}}, 69, []int64{0, 1}},
		{"4 becomes 2", []impl.Waiting{{Person: 1, Urgency: 2, Since: 50}, {Person: 2, Urgency: 4, Since: 10}}, 130, []int64{1, 0}},
		{"4 is not 2 yet", []impl.Waiting{{Person: 1, Urgency: 2, Since: 50}, {Person: 2, Urgency: 4, Since: 10}}, 129, []int64{0, 1}},
		{"1 is ahead of all who waited long", []impl.Waiting{{Person: 1, Urgency: 4, Since: 0}, {Person: 2, Urgency: 3, Since: 0}, {Person: 3, Urgency: 2, Since: 0}, {Person: 4, Urgency: 5, Since: 0}, {Person: 9, Urgency: 1, Since: 10000000}}, 10000000, []int64{4, 0, 1, 2, 3}},
		{"equal urgencies by Since", []impl.Waiting{{Person: 1, Urgency: 2, Since: 30}, {Person: 2, Urgency: 2, Since: 10}, {Person: 3, Urgency: 2, Since: 20}}, 40, []int64{1, 2, 0}},
		{"equal Since by Person", []impl.Waiting{{Person: 30, Urgency: 2, Since: 5}, {Person: 10, Urgency: 2, Since: 5}, {Person: 20, Urgency: 5, Since: 5}, {Person: 0, Urgency: 3, Since: 5}}, 64, []int64{1, 2, 0, 3}},
		{"the urgency then, not at first", []impl.Waiting{{Person: 1, Urgency: 2, Since: 8}, {Person: 2, Urgency: 3, Since: 7}, {Person: 3, Urgency: 4, Since: 6}, {Person: 4, Urgency: 5, Since: 5}}, 500, []int64{3, 2, 1, 0}},
		{"who came behind time", []impl.Waiting{{Person: 1, Urgency: 4, Since: 500}, {Person: 2, Urgency: 3, Since: 400}, {Person: 3, Urgency: 4, Since: 90}, {Person: 4, Urgency: 1, Since: 900}, {Person: 5, Urgency: 3, Since: 300}}, 100, []int64{3, 4, 1, 2, 0}},
	}
	for _, c := range cases {
		if got := impl.SeenOrder(c.q, c.time); !slices.Equal(got, c.want) {
			t.Errorf("%s: SeenOrder(%v, %d) = %v, want %v", c.what, c.q, c.time, got, c.want)
		}
		checkOrder(t, c.q, c.time)
	}
}

func TestSeenOrderOfAllPairs(t *testing.T) {
	sinces := []int64{0, 1, 59, 60, 61, 119, 120, 121, 300}
	for _, since := range sinces {
		for _, other := range sinces {
			for pair := range int64(25) {
				q := []impl.Waiting{{Person: 6, Urgency: 1 + pair/5, Since: since}, {Person: 5, Urgency: 1 + pair%5, Since: other}}
				for _, time := range []int64{0, 59, 60, 61, 119, 120, 121, 179, 180, 181, 240, 419, 420} {
					checkOrder(t, q, time)
				}
			}
		}
	}
}

func TestSeenOrderOfManyQueues(t *testing.T) {
	coins := rand.New(rand.NewSource(43))
	for range 4000 {
		q := randomQueue(coins, 12, 1+coins.Int63n(300))
		checkOrder(t, q, coins.Int63n(400))
	}
	for range 60 {
		checkOrder(t, randomQueue(coins, 200, 400), coins.Int63n(600))
		checkOrder(t, randomQueue(coins, 200, 10000001), coins.Int63n(10000001))
	}
}

func TestSeenOrderOfAFullQueue(t *testing.T) {
	full := queueOf(200)
	for at := range full {
		full[at].Person = 999 - int64(at)
	}
	got := impl.SeenOrder(full, 7)
	for at, place := range got {
		if place != int64(199-at) {
			t.Fatalf("place %d is %d", at, place)
		}
	}
	if len(got) != 200 {
		t.Fatal(len(got))
	}
	if got := impl.SeenOrder(append(full, impl.Waiting{Person: 1, Urgency: 1, Since: 0}), 7); len(got) != 0 {
		t.Error("201 who wait:", got)
	}
}

// Promise 6, its second half.
func TestSeenOrderIsAnOrderOfAllWhoWait(t *testing.T) {
	coins := rand.New(rand.NewSource(44))
	for range 1000 {
		q, time := randomQueue(coins, 60, 250), coins.Int63n(400)
		order := impl.SeenOrder(q, time)
		all := slices.Sorted(slices.Values(order))
		for place := range int64(len(q)) {
			if len(all) != len(q) || all[place] != place {
				t.Fatalf("SeenOrder(%v, %d) = %v is not all of them", q, time, order)
			}
		}
		for at := 1; at < len(order); at++ {
			if a, b := q[order[at-1]], q[order[at]]; !seenAhead(a, b, time) {
				t.Fatalf("at %d: %v is told ahead of %v", time, a, b)
			}
		}
		if !slices.Equal(personsIn(q, order), personsShuffled(coins, q, time)) {
			t.Fatalf("the order of %v hangs on their places", q)
		}
	}
}

func personsIn(q []impl.Waiting, order []int64) []int64 {
	var persons []int64
	for _, place := range order {
		persons = append(persons, q[place].Person)
	}
	return persons
}

func personsShuffled(coins *rand.Rand, q []impl.Waiting, time int64) []int64 {
	other := slices.Clone(q)
	coins.Shuffle(len(other), func(i, j int) { other[i], other[j] = other[j], other[i] })
	return personsIn(other, impl.SeenOrder(other, time))
}

func TestQueuesStayAndOrdersAreNewMemory(t *testing.T) {
	coins := rand.New(rand.NewSource(45))
	for range 200 {
		room := append(randomQueue(coins, 30, 200), impl.Waiting{Person: 77777}, impl.Waiting{Person: 88888})
		before := slices.Clone(room)
		q, time := room[:len(room)-2], coins.Int63n(300)
		impl.QueueOk(q)
		first := impl.SeenOrder(q, time)
		second := impl.SeenOrder(q, time)
		if !slices.Equal(room, before) {
			t.Fatal("a queue was written into, or the room behind it")
		}
		kept := slices.Clone(second)
		for at := range first {
			first[at] = -1
		}
		if !slices.Equal(second, kept) || !slices.Equal(room, before) {
			t.Fatal("an order shares memory")
		}
	}
}
