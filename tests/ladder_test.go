package tests

import (
	"math"
	"math/rand"
	"slices"
	"testing"

	"loop.example/g00060/impl"
)

func areWaits(waits []int64) bool {
	for _, wait := range waits {
		if !within(wait, 1, 1000) {
			return false
		}
	}
	return len(waits) <= 20
}

// wantedLadder goes up by minutes, and calls whoever's turn has come.
func wantedLadder(waits []int64, heard int64) int64 {
	if !areWaits(waits) || heard < 0 {
		return 0
	}
	called, waited := int64(1), int64(0)
	for minute := int64(1); minute <= heard && int(called) <= len(waits); minute++ {
		waited++
		if waited == waits[called-1] {
			called, waited = called+1, 0
		}
	}
	return called
}

func checkLadder(t *testing.T, waits []int64, heard int64) {
	t.Helper()
	if got, want := impl.Ladder(waits, heard), wantedLadder(waits, heard); got != want {
		t.Fatalf("Ladder(%v, %d) = %d, want %d", waits, heard, got, want)
	}
}

func sameWaits(count int, wait int64) []int64 { return slices.Repeat([]int64{wait}, count) }

func TestLadder(t *testing.T) {
	for _, c := range []struct {
		waits       []int64
		heard, want int64
	}{
		{nil, 0, 1}, {nil, 1, 1}, {nil, 10000000, 1}, {[]int64{}, 0, 1}, {nil, math.MaxInt64, 1},
		{[]int64{5, 10}, 0, 1}, {[]int64{5, 10}, 4, 1}, {[]int64{5, 10}, 5, 2}, {[]int64{5, 10}, 6, 2},
		{[]int64{5, 10}, 14, 2}, {[]int64{5, 10}, 15, 3}, {[]int64{5, 10}, 16, 3}, {[]int64{5, 10}, 1000, 3},
		{[]int64{10, 5}, 9, 1}, {[]int64{10, 5}, 10, 2}, {[]int64{10, 5}, 14, 2}, {[]int64{10, 5}, 15, 3},
		{[]int64{1}, 0, 1}, {[]int64{1}, 1, 2}, {[]int64{1}, 2, 2},
		{[]int64{1, 1, 1}, 0, 1}, {[]int64{1, 1, 1}, 1, 2}, {[]int64{1, 1, 1}, 2, 3}, {[]int64{1, 1, 1}, 3, 4}, {[]int64{1, 1, 1}, 4, 4},
		{[]int64{1000}, 999, 1}, {[]int64{1000}, 1000, 2}, {[]int64{1000}, 1001, 2},
		{[]int64{1000, 1}, 1000, 2}, {[]int64{1000, 1}, 1001, 3}, {[]int64{1, 1000}, 1000, 2}, {[]int64{1, 1000}, 1001, 3},
		{sameWaits(20, 1), 19, 20}, {sameWaits(20, 1), 20, 21}, {sameWaits(20, 1), 21, 21},
		{sameWaits(20, 1000), 19999, 20}, {sameWaits(20, 1000), 20000, 21}, {sameWaits(20, 1000), math.MaxInt64, 21},
		{sameWaits(19, 1000), math.MaxInt64, 20}, {sameWaits(20, 1000), 0, 1},
	} {
		if got := impl.Ladder(c.waits, c.heard); got != c.want {
			t.Errorf("Ladder(%v, %d) = %d, want %d", c.waits, c.heard, got, c.want)
		}
	}
}

func TestWrongLadders(t *testing.T) {
	for _, heard := range []int64{math.MinInt64, -1000, -1} {
		for _, waits := range [][]int64{nil, {1}, {5, 10}, sameWaits(20, 1000)} {
			if got := impl.Ladder(waits, heard); got != 0 {
				t.Errorf("%v, heard at %d: %d", waits, heard, got)
			}
		}
	}
	for _, waits := range [][]int64{
		{0}, {-1}, {1001}, {math.MinInt64}, {math.MaxInt64}, {0, 5}, {5, 0}, {5, 10, 0}, {5, 1001, 10}, {1000, 1000, 1001}, {5, -5}, {math.MaxInt64, math.MaxInt64},
		sameWaits(21, 1), sameWaits(21, 1000), sameWaits(100, 5), append(sameWaits(19, 5), 0), append(sameWaits(19, 5), 1001), append(sameWaits(20, 5), 0),
	} {
		for _, heard := range []int64{-1, 0, 1, 4, 5, 100, 1000000, math.MaxInt64} {
			if got := impl.Ladder(waits, heard); got != 0 {
				t.Errorf("%v, heard at %d: %d", waits, heard, got)
			}
		}
	}
}

// With each number of waits, at each somebody's minute, just ahead of it and behind it.
func TestLadderAtEachMinute(t *testing.T) {
	coins := rand.New(rand.NewSource(75))
	for count := range 21 {
		waits := make([]int64, count)
		for at := range waits {
			waits[at] = 1 + coins.Int63n(1000)
		}
		minute := int64(0)
		for at, wait := range waits {
			minute += wait
			ahead, in, behind := impl.Ladder(waits, minute-1), impl.Ladder(waits, minute), impl.Ladder(waits, minute+1)
			if ahead != int64(at+1) || in != int64(at+2) || behind < in {
				t.Fatalf("%v at %d: %d, %d, %d", waits, minute, ahead, in, behind)
			}
			checkLadder(t, waits, minute+1)
		}
		if got := impl.Ladder(waits, math.MaxInt64); got != int64(count+1) {
			t.Fatalf("%v: %d", waits, got)
		}
	}
}

func TestRandomLadders(t *testing.T) {
	coins := rand.New(rand.NewSource(76))
	for range 3000 {
		waits := make([]int64, coins.Intn(23))
		for at := range waits {
			waits[at] = 1 + coins.Int63n(9)
			if coins.Intn(60) == 0 {
				waits[at] = coins.Int63n(2) * 1001
			}
		}
		checkLadder(t, waits, coins.Int63n(120)-5)
	}
}

func TestQuiet(t *testing.T) {
	for _, c := range []struct{ what, ticks, kept string }{
		{"none", "", ""},
		{"all are quiet", "? ? ?", ""},
		{"one that is quiet", "?", ""},
		{"none is quiet", "1 !2 0 !0 !? -5", "1 !2 0 !0 !? -5"},
		{"one that is not known was pressed", "? !? ?", "!?"},
		{"0 is known", "0 ? 0", "0 0"},
		{"0 is known and pressed", "? !0", "!0"},
		{"the first and the last", "? 1 2 ?", "1 2"},
		{"between", "1 ? ? 2 ? !3", "1 2 !3"},
		{"alike stay", "7 7 ? 7 !? !? ? !?", "7 7 7 !? !? !?"},
		{"not sorted", "9 ? 1 ? 5", "9 1 5"},
		{"at the ends", "100000 ? -100000 !?", "100000 -100000 !?"},
	} {
		if got, want := impl.Quiet(ticksOf(c.ticks)), ticksOf(c.kept); !slices.Equal(got, want) {
			t.Errorf("%s: %v, want %v", c.what, got, want)
		}
	}
}

func TestQuietAtTheLimit(t *testing.T) {
	loud := slices.Repeat(ticksOf("!?"), 2000)
	if got := impl.Quiet(loud); !slices.Equal(got, loud) {
		t.Error("none is quiet:", len(got))
	}
	if got := impl.Quiet(make([]impl.Tick, 2000)); len(got) != 0 {
		t.Error("all are quiet:", len(got))
	}
	if got := impl.Quiet(append(make([]impl.Tick, 1999), ticksOf("4")...)); !slices.Equal(got, ticksOf("4")) {
		t.Error("all but the last:", got)
	}
	checkNoTicks(t, "one too many", slices.Repeat(ticksOf("!?"), 2001))
}

// What is quiet changes nothing: Watch tells the same of the others without it, and Quiet of what it tells is itself.
func TestQuietIsNotWatched(t *testing.T) {
	coins := rand.New(rand.NewSource(77))
	for round := range 1000 {
		ticks := randomTicks(coins, round/10)
		a := alarmOf(coins.Int63n(6), coins.Int63n(4))
		kept := impl.Quiet(ticks)
		var told []int64
		for at, one := range impl.Watch(a, ticks) {
			if ticks[at].Known || ticks[at].Heard {
				told = append(told, one)
			}
		}
		if got := impl.Watch(a, kept); !slices.Equal(got, told) {
			t.Fatalf("%v, %v: %v, want %v", a, ticks, got, told)
		}
		if got := impl.Quiet(kept); !slices.Equal(got, kept) {
			t.Fatalf("%v: %v", kept, got)
		}
		if len(impl.Sounded(a, kept)) != len(impl.Sounded(a, ticks)) {
			t.Fatalf("%v, %v", a, ticks)
		}
	}
}
