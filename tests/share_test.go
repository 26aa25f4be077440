package tests

import (
	"math"
	"math/rand"
	"slices"
	"testing"

	"loop.example/g00060/impl"
)

func isShare(volume int64, asks, needs []int64) bool {
	if !within(volume, 0, 100000) || len(asks) > 20 || len(needs) > 100 {
		return false
	}
	for _, need := range needs {
		if !within(need, 0, 100000) {
			return false
		}
	}
	seen := map[int64]int{}
	for _, ask := range asks {
		seen[ask]++
		if !within(ask, 0, 99) || !within(ask, 0, int64(len(needs))-1) || seen[ask] > 1 {
			return false
		}
	}
	return true
}

// needed is what these tests take together.
func needed(tests, needs []int64) int64 {
	sum := int64(0)
	for _, test := range tests {
		sum += needs[test]
	}
	return sum
}

// wantedShare reckons for each ask anew what those done ahead of it have left.
func wantedShare(volume int64, asks, needs []int64) []int64 {
	done := []int64{}
	if !isShare(volume, asks, needs) {
		return done
	}
	for _, ask := range asks {
		if needed(append(slices.Clone(done), ask), needs) <= volume {
			done = append(done, ask)
		}
	}
	return done
}

func checkShare(t *testing.T, what string, volume int64, asks, needs []int64, want ...int64) {
	t.Helper()
	if got := impl.Share(volume, asks, needs); !slices.Equal(got, want) {
		t.Errorf("%s: Share(%d, %v, %v) = %v, want %v", what, volume, asks, needs, got, want)
	}
	if told := wantedShare(volume, asks, needs); !slices.Equal(told, want) {
		t.Errorf("%s: the test itself tells %v, want %v", what, told, want)
	}
}

// numbersTo is 0, 1 and so on, so many of them.
func numbersTo(count int64) []int64 {
	list := []int64{}
	for n := range count {
		list = append(list, n)
	}
	return list
}

func TestShareInOrder(t *testing.T) {
	needs := []int64{5, 2, 7, 0, 10}
	checkShare(t, "all fit", 24, []int64{4, 3, 2, 1, 0}, needs, 4, 3, 2, 1, 0)
	checkShare(t, "the last lacks one", 23, []int64{4, 3, 2, 1, 0}, needs, 4, 3, 2, 1)
	checkShare(t, "the more urgent ahead", 10, []int64{0, 1, 2, 4}, needs, 0, 1)
	checkShare(t, "another order", 10, []int64{4, 0, 1, 2}, needs, 4)
	checkShare(t, "one that does not fit ahead of one that does", 6, []int64{2, 0, 1, 3}, needs, 0, 3)
	checkShare(t, "some that do not fit", 4, []int64{4, 2, 0, 1}, needs, 1)
	checkShare(t, "just what is left", 9, []int64{1, 2}, needs, 1, 2)
	checkShare(t, "one less than that", 8, []int64{1, 2}, needs, 1)
	checkShare(t, "nothing is left for more", 7, []int64{2, 1, 3}, needs, 2, 3)
	checkShare(t, "none fits", 1, []int64{0, 1, 2, 4}, needs)
	checkShare(t, "no asks", 10, nil, needs)
	checkShare(t, "no asks, but not nil", 10, []int64{}, needs)
	checkShare(t, "no asks and no needs", 10, nil, nil)
}

func TestVolumesOfTubes(t *testing.T) {
	for _, volume := range []int64{math.MinInt64, -1, 100001, math.MaxInt64} {
		checkShare(t, "no volume", volume, []int64{0, 1}, []int64{0, 1})
	}
	checkShare(t, "an empty tube", 0, []int64{0, 1, 2}, []int64{0, 1, 0}, 0, 2)
	checkShare(t, "a full tube", 100000, []int64{0, 1, 2}, []int64{99999, 2, 1}, 0, 2)
	checkShare(t, "one that takes a full tube", 100000, []int64{0, 1, 2}, []int64{100000, 1, 0}, 0, 2)
	checkShare(t, "one less than it takes", 99999, []int64{0, 1, 2}, []int64{100000, 1, 0}, 1, 2)
}

func TestAsksOfTubes(t *testing.T) {
	needs := slices.Repeat([]int64{1}, 100)
	for _, ask := range []int64{0, 1, 98, 99} {
		checkShare(t, "an ask", 5, []int64{ask}, needs, ask)
		checkShare(t, "an ask with its need told last", 5, []int64{ask}, needs[:ask+1], ask)
		checkShare(t, "an ask without a need told", 5, []int64{ask}, needs[:ask])
		checkShare(t, "an ask without a need told, behind one that has it", 5, []int64{50, ask}, needs[:ask])
	}
	for _, ask := range []int64{math.MinInt64, -1, 100, 101, math.MaxInt64} {
		checkShare(t, "no test", 5, []int64{ask}, needs)
		checkShare(t, "no test, ahead", 5, []int64{ask, 3}, needs)
		checkShare(t, "no test, behind", 5, []int64{3, ask}, needs)
		checkShare(t, "no test, and no needs", 5, []int64{ask}, nil)
	}
	checkShare(t, "without a need told, though nothing would be left for it", 0, []int64{0, 3}, needs[:3])
	checkShare(t, "two the same", 5, []int64{3, 3}, needs)
	checkShare(t, "two the same, parted", 5, []int64{3, 4, 5, 3}, needs)
	checkShare(t, "two the same, for which nothing would be left", 0, []int64{3, 4, 4}, needs)
}

func TestHowManyAsks(t *testing.T) {
	needs := slices.Repeat([]int64{1}, 100)
	asks := numbersTo(22)
	checkShare(t, "one fewer", 100, asks[:19], needs, asks[:19]...)
	checkShare(t, "just as many", 100, asks[:20], needs, asks[:20]...)
	checkShare(t, "one too many", 100, asks[:21], needs)
	checkShare(t, "two too many", 100, asks, needs)
	checkShare(t, "one too many for which nothing is left", 3, asks[:21], needs)
	checkShare(t, "just as many for which nothing is left", 3, asks[:20], needs, 0, 1, 2)
}

func TestNeedsOfTests(t *testing.T) {
	checkShare(t, "the greatest need", 100000, []int64{0}, []int64{100000}, 0)
	for _, need := range []int64{math.MinInt64, -1, 100001, math.MaxInt64} {
		checkShare(t, "no need", 100000, []int64{0}, []int64{need})
		checkShare(t, "no need, of a test that is not asked for", 100000, []int64{0}, []int64{1, need})
		checkShare(t, "no need, and no asks", 100000, nil, []int64{need})
	}
	needs := make([]int64, 102)
	checkShare(t, "just as many", 0, []int64{99, 0}, needs[:100], 99, 0)
	checkShare(t, "one too many", 0, []int64{99, 0}, needs[:101])
	checkShare(t, "one too many, and it asked for", 0, []int64{100}, needs[:101])
	checkShare(t, "two too many", 0, []int64{0}, needs)
	needs[99] = -1
	checkShare(t, "the last is no need", 0, []int64{0}, needs[:100])
}

// isPartOf asks whether the tests stand in the asks in this order.
func isPartOf(tests, asks []int64) bool {
	at := 0
	for _, ask := range asks {
		if at < len(tests) && tests[at] == ask {
			at++
		}
	}
	return at == len(tests)
}

// Promise 14: what is shared among tubes is no more than was there.
func TestNoMoreIsSharedThanWasThere(t *testing.T) {
	coins := rand.New(rand.NewSource(114))
	lacking, skipped, full := 0, 0, 0
	for range 6000 {
		tests := 1 + coins.Intn(100)
		most := []int64{3, 40, 100000}[coins.Intn(3)]
		needs := make([]int64, tests)
		for at := range needs {
			needs[at] = coins.Int63n(most + 1)
		}
		asks := []int64{}
		for _, test := range coins.Perm(tests)[:coins.Intn(1+min(20, tests))] {
			asks = append(asks, int64(test))
		}
		volume := coins.Int63n(1 + min(100000, 6*most))
		done := impl.Share(volume, asks, needs)
		if want := wantedShare(volume, asks, needs); !slices.Equal(done, want) {
			t.Fatalf("Share(%d, %v, %v) = %v, want %v", volume, asks, needs, done, want)
		}
		if needed(done, needs) > volume || !isPartOf(done, asks) {
			t.Fatalf("Share(%d, %v, %v) = %v", volume, asks, needs, done)
		}
		// With just what was taken the same is done; with one less it is not.
		taken := needed(done, needs)
		if again := impl.Share(taken, done, needs); !slices.Equal(again, done) {
			t.Fatal(taken, done, again)
		}
		if taken > 0 && slices.Equal(impl.Share(taken-1, done, needs), done) {
			t.Fatal(taken, done)
		}
		switch {
		case len(done) == len(asks):
			full++
		case len(done) > 0 && !slices.Equal(done, asks[:len(done)]):
			skipped++
		default:
			lacking++
		}
	}
	if full < 500 || skipped < 500 || lacking < 100 {
		t.Error(full, skipped, lacking)
	}
}

func TestAsksStayAndSharesAreNewMemory(t *testing.T) {
	asks, needs := []int64{2, 0, 1, 1, 7}, []int64{5, 2, 7, -1}
	asksBefore, needsBefore := slices.Clone(asks), slices.Clone(needs)
	one, other := impl.Share(14, asks[:3], needs[:3]), impl.Share(14, asks[:3], needs[:3])
	clear(other[:cap(other)])
	if !slices.Equal(one, []int64{2, 0, 1}) || !slices.Equal(asks, asksBefore) || !slices.Equal(needs, needsBefore) {
		t.Fatal(one, asks, needs)
	}
}
