package tests

import (
	"math"
	"math/rand"
	"slices"
	"testing"

	"loop.example/g00060/impl"
)

// wantedCalls holds each one against all that were called out ahead of it.
func wantedCalls(list []impl.Result, low, high int64) []int64 {
	places := []int64{}
	if !areResults(list) {
		return places
	}
	for at, r := range list {
		if !r.Known || low <= r.Value && r.Value <= high {
			continue
		}
		soon := slices.ContainsFunc(places, func(called int64) bool { return r.Time-list[called].Time < 60 })
		if !soon {
			places = append(places, int64(at))
		}
	}
	return places
}

func checkCalls(t *testing.T, what string, list []impl.Result, low, high int64, want ...int64) {
	t.Helper()
	if got := impl.Calls(list, low, high); !slices.Equal(got, want) {
		t.Errorf("%s: Calls(%v, %d, %d) = %v, want %v", what, list, low, high, got, want)
	}
	if told := wantedCalls(list, low, high); !slices.Equal(told, want) {
		t.Errorf("%s: the test itself tells %v, want %v", what, told, want)
	}
}

func TestCallsAtTheBounds(t *testing.T) {
	for value, told := range map[int64][]int64{4: {0}, 5: nil, 6: nil, 7: nil, 8: nil, 9: {0}, -100000: {0}, 100000: {0}, 0: {0}} {
		checkCalls(t, "one", resultsOf(value, 10), 5, 8, told...)
	}
	checkCalls(t, "each an hour behind the other", resultsOf(4, 0, 5, 60, 8, 120, 9, 180), 5, 8, 0, 3)
	checkCalls(t, "none", nil, 5, 8)
	checkCalls(t, "none, but not nil", []impl.Result{}, 5, 8)
	checkCalls(t, "low and high the same", resultsOf(4, 0, 5, 60, 6, 120), 5, 5, 0, 2)
	checkCalls(t, "low above high: below low or above high", resultsOf(4, 0, 5, 60, 6, 120, 7, 180, 8, 240, 9, 300), 8, 5, 0, 1, 2, 3, 4, 5)
	checkCalls(t, "low one above high", resultsOf(5, 0, 6, 60), 6, 5, 0, 1)
}

func TestCallsWaitAnHour(t *testing.T) {
	for later, told := range map[int64][]int64{0: {0}, 1: {0}, 59: {0}, 60: {0, 1}, 61: {0, 1}, 1000: {0, 1}} {
		checkCalls(t, "behind one that was called out", resultsOf(9, 10, 9, 10+later), 5, 8, told...)
		checkCalls(t, "on the other side", resultsOf(9, 10, 4, 10+later), 5, 8, told...)
		checkCalls(t, "from below", resultsOf(4, 10, 4, 10+later), 5, 8, told...)
	}
	checkCalls(t, "behind one that was not called out", resultsOf(9, 0, 9, 59, 9, 60), 5, 8, 0, 2)
	checkCalls(t, "each less than an hour behind the one ahead", resultsOf(9, 0, 9, 30, 9, 60, 9, 90, 9, 120, 9, 179), 5, 8, 0, 2, 4)
	checkCalls(t, "behind one within the bounds", resultsOf(6, 0, 9, 1), 5, 8, 1)
	checkCalls(t, "one within the bounds between", resultsOf(9, 0, 6, 30, 9, 59, 9, 60), 5, 8, 0, 3)
	checkCalls(t, "at one time", resultsOf(9, 0, 4, 0, 9, 0, 4, 60, 9, 60), 5, 8, 0, 3)
}

func TestCallsPassOverWhatIsNotKnown(t *testing.T) {
	list := slices.Concat([]impl.Result{notKnown(0)}, resultsOf(9, 10), []impl.Result{notKnown(20)}, resultsOf(9, 69), []impl.Result{notKnown(70)}, resultsOf(9, 70), []impl.Result{notKnown(500)})
	checkCalls(t, "a 0 that is not known is not below low", list, 5, 8, 1, 5)
	checkCalls(t, "a 0 that is not known is not above high", list, -9, -5, 1, 5)
	checkCalls(t, "nothing is known", []impl.Result{notKnown(0), notKnown(100)}, 5, 8)
	checkCalls(t, "a 0 that is known", slices.Concat([]impl.Result{notKnown(0)}, resultsOf(0, 0)), 5, 8, 1)
}

func TestBoundsOfCalls(t *testing.T) {
	list := resultsOf(-100000, 0, 0, 60, 100000, 120)
	checkCalls(t, "the values' own ends", list, -100000, 100000)
	checkCalls(t, "one within them", list, -99999, 99999, 0, 2)
	checkCalls(t, "any number bounds", list, math.MinInt64, math.MaxInt64)
	checkCalls(t, "none is high enough", list, math.MaxInt64, math.MaxInt64, 0, 1, 2)
	checkCalls(t, "none is low enough", list, math.MinInt64, math.MinInt64, 0, 1, 2)
	checkCalls(t, "the wrong way round", list, math.MaxInt64, math.MinInt64, 0, 1, 2)
}

func TestCallsOfWrongResults(t *testing.T) {
	checkCalls(t, "as told", resultsOf(0, 10, 1000, 70, -1000, 130), 5, 8, 0, 1, 2)
	for name, list := range wrongResults() {
		checkCalls(t, name, list, 5, 8)
		if got := impl.Calls(list, math.MaxInt64, math.MinInt64); len(got) != 0 {
			t.Error(name, got)
		}
	}
}

func TestHowManyCalls(t *testing.T) {
	many := resultsOf()
	for at := range int64(2001) {
		many = append(many, impl.Result{Value: 9, Time: at * 60, Known: true})
	}
	for _, count := range []int64{1999, 2000} {
		checkCalls(t, "many", many[:count], 5, 8, numbersTo(count)...)
	}
	checkCalls(t, "one too many", many, 5, 8)
	checkCalls(t, "times at the ends", resultsOf(9, 0, 9, 9999940, 9, 9999999, 9, 10000000), 5, 8, 0, 1, 3)
}

func TestCallsAsTold(t *testing.T) {
	coins := rand.New(rand.NewSource(116))
	told, kept := 0, 0
	for range 6000 {
		list := randomResults(coins, coins.Intn(20))
		spoilResults(coins, list)
		before := slices.Clone(list)
		low, high := coins.Int63n(24)-20, coins.Int63n(24)-3
		got, want := impl.Calls(list, low, high), wantedCalls(list, low, high)
		if !slices.Equal(got, want) || !slices.Equal(list, before) {
			t.Fatalf("Calls(%v, %d, %d) = %v, want %v", list, low, high, got, want)
		}
		told, kept = told+len(got), kept+len(list)-len(got)
	}
	if told < 5000 || kept < 5000 {
		t.Error(told, kept)
	}
}
