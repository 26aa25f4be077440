package tests

import (
	"math"
	"math/rand"
	"slices"
	"testing"

	"loop.example/g00060/impl"
)

// resultsOf takes a value and a time for each result; all are known.
func resultsOf(numbers ...int64) []impl.Result {
	var list []impl.Result
	for at := 0; at < len(numbers); at += 2 {
		list = append(list, impl.Result{Value: numbers[at], Time: numbers[at+1], Known: true})
	}
	return list
}

// notKnown is a result that there is none of, at that time.
func notKnown(time int64) impl.Result { return impl.Result{Time: time} }

func areResults(list []impl.Result) bool {
	latest := int64(0)
	for _, r := range list {
		value := r.Known && within(r.Value, -100000, 100000) || !r.Known && r.Value == 0
		if !value || !within(r.Time, latest, 10000000) {
			return false
		}
		latest = r.Time
	}
	return len(list) <= 2000
}

// wantedDelta looks back from each known one for the one to hold it against.
func wantedDelta(list []impl.Result, most, span int64) []int64 {
	places := []int64{}
	if !areResults(list) || most < 0 || span < 0 {
		return places
	}
	for at, r := range list {
		ahead := at - 1
		for ahead >= 0 && !list[ahead].Known {
			ahead--
		}
		if !r.Known || ahead < 0 {
			continue
		}
		differs := r.Value > list[ahead].Value && r.Value-list[ahead].Value > most || r.Value < list[ahead].Value && list[ahead].Value-r.Value > most
		if differs && r.Time-list[ahead].Time <= span {
			places = append(places, int64(at))
		}
	}
	return places
}

func checkDelta(t *testing.T, what string, list []impl.Result, most, span int64, want ...int64) {
	t.Helper()
	if got := impl.Delta(list, most, span); !slices.Equal(got, want) {
		t.Errorf("%s: Delta(%v, %d, %d) = %v, want %v", what, list, most, span, got, want)
	}
	if told := wantedDelta(list, most, span); !slices.Equal(told, want) {
		t.Errorf("%s: the test itself tells %v, want %v", what, told, want)
	}
}

func TestDeltaOfTwo(t *testing.T) {
	for _, c := range []struct {
		differ, later int64
		told          []int64
	}{
		{0, 0, nil}, {10, 0, nil}, {11, 0, []int64{1}}, {9, 60, nil}, {10, 60, nil}, {11, 60, []int64{1}}, {11, 59, []int64{1}}, {11, 61, nil}, {1000, 61, nil}, {1000, 60, []int64{1}},
	} {
		checkDelta(t, "up", resultsOf(5, 100, 5+c.differ, 100+c.later), 10, 60, c.told...)
		checkDelta(t, "down", resultsOf(5, 100, 5-c.differ, 100+c.later), 10, 60, c.told...)
	}
	checkDelta(t, "none", nil, 10, 60)
	checkDelta(t, "none, but not nil", []impl.Result{}, 10, 60)
	checkDelta(t, "one", resultsOf(100, 5), 0, 60)
}

func TestDeltaOfSome(t *testing.T) {
	checkDelta(t, "each against the one ahead", resultsOf(0, 0, 11, 1, 22, 2, 30, 3, 19, 4), 10, 60, 1, 2, 4)
	checkDelta(t, "bit by bit", resultsOf(0, 0, 10, 1, 20, 2, 30, 3, 40, 4), 10, 60)
	checkDelta(t, "there and back", resultsOf(0, 0, 11, 1, 0, 2, 11, 3), 10, 60, 1, 2, 3)
	checkDelta(t, "the one ahead is too old, though one more is not asked", resultsOf(0, 0, 50, 100, 100, 161), 10, 60)
	checkDelta(t, "the last such alone: it is near enough in value", resultsOf(0, 0, 50, 30, 55, 40), 10, 60, 1)
	checkDelta(t, "behind one that is too old", resultsOf(0, 0, 50, 100, 100, 160), 10, 60, 2)
}

func TestDeltaPassesOverWhatIsNotKnown(t *testing.T) {
	list := func(first, second int64, between ...impl.Result) []impl.Result {
		return slices.Concat(resultsOf(5, 100), between, resultsOf(first, second))
	}
	checkDelta(t, "one between", list(16, 160, notKnown(120)), 10, 60, 2)
	checkDelta(t, "some between", list(16, 160, notKnown(100), notKnown(120), notKnown(160)), 10, 60, 4)
	checkDelta(t, "one between, too old", list(16, 161, notKnown(160)), 10, 60)
	checkDelta(t, "one between, too little", list(15, 160, notKnown(120)), 10, 60)
	checkDelta(t, "first and last", slices.Concat([]impl.Result{notKnown(0)}, resultsOf(50, 1, 70, 2), []impl.Result{notKnown(2)}), 10, 60, 2)
	checkDelta(t, "nothing is known", []impl.Result{notKnown(0), notKnown(0), notKnown(9)}, 0, 60)
	checkDelta(t, "one alone is known", []impl.Result{notKnown(0), {Value: 100000, Time: 1, Known: true}, notKnown(2)}, 0, 60)
	checkDelta(t, "a 0 that is known", slices.Concat([]impl.Result{notKnown(0)}, resultsOf(0, 1, 1, 2)), 0, 60, 2)
}

func TestMostAndWithinOfDelta(t *testing.T) {
	list := resultsOf(5, 0, 5, 0, 6, 0, 8, 1, 100000, 2, -100000, 10000000)
	checkDelta(t, "both 0", list, 0, 0, 2)
	checkDelta(t, "most 0", list, 0, 1, 2, 3, 4)
	checkDelta(t, "within 0", list, 1, 0)
	checkDelta(t, "one less than the widest time", list, 0, 9999997, 2, 3, 4)
	checkDelta(t, "the widest time", list, 0, 9999998, 2, 3, 4, 5)
	checkDelta(t, "one less than the widest difference", list, 199999, 9999998, 5)
	checkDelta(t, "the widest difference", list, 200000, 9999998)
	checkDelta(t, "without end", list, 0, math.MaxInt64, 2, 3, 4, 5)
	checkDelta(t, "nothing is more", list, math.MaxInt64, math.MaxInt64)
	for _, wrong := range []int64{-1, -2, math.MinInt64} {
		checkDelta(t, "most", list, wrong, 5)
		checkDelta(t, "within", list, 5, wrong)
		checkDelta(t, "both", list, wrong, wrong)
	}
}

// wrongResults are lists that are not as told, each for one reason alone.
func wrongResults() map[string][]impl.Result {
	right := resultsOf(0, 10, 1000, 20, -1000, 30)
	lists := map[string][]impl.Result{
		"times fall":                    resultsOf(0, 10, 1000, 9, -1000, 30),
		"times fall at the end":         resultsOf(0, 10, 1000, 20, -1000, 19),
		"times fall to one not known":   slices.Concat(resultsOf(0, 10, 1000, 20), []impl.Result{notKnown(19)}),
		"times fall from one not known": slices.Concat(resultsOf(0, 10, 1000, 20), []impl.Result{notKnown(40)}, resultsOf(1, 30)),
		"the first time is none":        resultsOf(0, -1, 1000, 20, -1000, 30),
		"the last time is none":         resultsOf(0, 10, 1000, 20, -1000, 10000001),
		"no time of one not known":      slices.Concat(right, []impl.Result{notKnown(10000001)}),
		"no time of the first":          slices.Concat([]impl.Result{notKnown(-1)}, right),
		"the least of times":            slices.Concat(resultsOf(0, math.MinInt64), right),
		"the greatest of times":         slices.Concat(right, resultsOf(0, math.MaxInt64)),
		"one too many":                  slices.Repeat(resultsOf(0, 10), 2001),
		"two too many, not known":       make([]impl.Result, 2002),
	}
	for name, value := range map[string]int64{"one": 1, "minus one": -1, "much": math.MaxInt64, "little": math.MinInt64} {
		lists["a value where it is not known: "+name] = slices.Concat(right, []impl.Result{{Value: value, Time: 40}})
		lists["a value where it is not known, first: "+name] = slices.Concat([]impl.Result{{Value: value, Time: 5}}, right)
	}
	for name, value := range map[string]int64{"above": 100001, "below": -100001, "much": math.MaxInt64, "little": math.MinInt64} {
		lists["no value: "+name] = slices.Concat(right, resultsOf(value, 40))
		lists["no value, first: "+name] = slices.Concat(resultsOf(value, 5), right)
	}
	return lists
}

func TestDeltaOfWrongResults(t *testing.T) {
	checkDelta(t, "as told", resultsOf(0, 10, 1000, 20, -1000, 30), 0, 100, 1, 2)
	for name, list := range wrongResults() {
		checkDelta(t, name, list, 0, 100)
		if got := impl.Delta(list, 0, math.MaxInt64); len(got) != 0 {
			t.Error(name, got)
		}
	}
}

func TestEndsOfDelta(t *testing.T) {
	checkDelta(t, "values at the ends", resultsOf(-100000, 0, 100000, 0, 100000, 0, -100000, 0), 199999, 0, 1, 3)
	checkDelta(t, "times at the ends", resultsOf(0, 0, 1, 0, 2, 10000000, 3, 10000000), 0, 5, 1, 3)
	many := resultsOf()
	for at := range int64(2001) {
		many = append(many, impl.Result{Value: at % 2, Time: at, Known: true})
	}
	for _, count := range []int64{1999, 2000} {
		checkDelta(t, "many", many[:count], 0, 1, numbersTo(count)[1:]...)
	}
	checkDelta(t, "one too many", many, 0, 1)
	many[1999].Time = 1997
	checkDelta(t, "the last time falls", many[:2000], 0, 1)
}

// randomResults leap by little or by much, and now and then wait for long, or are not known.
func randomResults(coins *rand.Rand, count int) []impl.Result {
	list, time := make([]impl.Result, count), coins.Int63n(50)
	for at := range list {
		list[at] = impl.Result{Value: coins.Int63n(41) - 20, Time: time, Known: coins.Intn(4) > 0}
		if !list[at].Known {
			list[at].Value = 0
		}
		time += []int64{0, 1, coins.Int63n(30), 50 + coins.Int63n(20)}[coins.Intn(4)]
	}
	return list
}

// spoilResults makes, at times, one of them wrong.
func spoilResults(coins *rand.Rand, list []impl.Result) {
	if len(list) == 0 || coins.Intn(8) > 0 {
		return
	}
	r := &list[coins.Intn(len(list))]
	wild := []int64{math.MinInt64, -100001, -1, 0, 3, 100001, 10000001, math.MaxInt64}
	*[]*int64{&r.Value, &r.Time}[coins.Intn(2)] = wild[coins.Intn(len(wild))]
}

func TestDeltaAsTold(t *testing.T) {
	coins := rand.New(rand.NewSource(115))
	told := 0
	for range 6000 {
		list := randomResults(coins, coins.Intn(20))
		spoilResults(coins, list)
		before := slices.Clone(list)
		most, span := coins.Int63n(22)-1, coins.Int63n(72)-1
		got, want := impl.Delta(list, most, span), wantedDelta(list, most, span)
		if !slices.Equal(got, want) || !slices.Equal(list, before) {
			t.Fatalf("Delta(%v, %d, %d) = %v, want %v", list, most, span, got, want)
		}
		told += len(got)
	}
	if told < 5000 {
		t.Error(told)
	}
}

func TestResultsStayAndPlacesAreNewMemory(t *testing.T) {
	room := resultsOf(0, 0, 100, 100, 0, 200, 100, 300, 9, 9)
	before := slices.Clone(room)
	one, other := impl.Delta(room[:4], 10, 100), impl.Delta(room[:4], 10, 100)
	clear(other[:cap(other)])
	if !slices.Equal(one, []int64{1, 2, 3}) || !slices.Equal(room, before) {
		t.Fatal(one, room)
	}
	one, other = impl.Calls(room[:4], 50, 80), impl.Calls(room[:4], 50, 80)
	clear(other[:cap(other)])
	if !slices.Equal(one, []int64{0, 1, 2, 3}) || !slices.Equal(room, before) {
		t.Fatal(one, room)
	}
}
