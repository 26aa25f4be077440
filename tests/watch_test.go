package tests

import (
	"math/rand"
	"runtime"
	"slices"
	"sync"
	"testing"
	"time"

	"loop.example/g00060/impl"
)

type watchCase struct {
	what  string
	a     impl.Alarm
	ticks string
	told  []int64
	began []int64
}

func checkWatched(t *testing.T, cases []watchCase) {
	t.Helper()
	for _, c := range cases {
		ticks := ticksOf(c.ticks)
		if got := impl.Watch(c.a, ticks); !slices.Equal(got, c.told) {
			t.Errorf("%s: %v, want %v", c.what, got, c.told)
		}
		if got := impl.Sounded(c.a, ticks); !slices.Equal(got, c.began) {
			t.Errorf("%s: began at %v, want %v", c.what, got, c.began)
		}
		checkAlarm(t, c.a, ticks)
	}
}

func TestWatchAtTheBounds(t *testing.T) {
	checkWatched(t, []watchCase{
		{"at High and at Low", alarmOf(2, 0), "10 0 10 0", []int64{0, 0, 0, 0}, nil},
		{"one above High", alarmOf(2, 0), "11", []int64{11}, []int64{0}},
		{"one below Low", alarmOf(2, 0), "-1", []int64{9}, []int64{0}},
		{"one within High", alarmOf(2, 0), "9 1", []int64{0, 0}, nil},
		{"far off", alarmOf(2, 0), "100000 !5 -100000", []int64{11, 0, 9}, []int64{0, 2}},
		{"bounds side by side", impl.Alarm{High: 1, Low: 0}, "0 1 2 !1 -1 !0", []int64{0, 0, 11, 0, 9, 0}, []int64{2, 4}},
		{"bounds below 0", impl.Alarm{High: -5, Low: -10}, "-5 -10 -4 !-5 -11 !0", []int64{0, 0, 11, 0, 9, 11}, []int64{2, 4, 5}},
		{"no slack, at High", alarmOf(0, 5), "11 10 11 11", []int64{1, 0, 1, 1}, nil},
		{"no slack, at Low", alarmOf(0, 5), "-1 0 -1 -1", []int64{-1, 0, -1, -1}, nil},
	})
}

func TestWatchWithSlack(t *testing.T) {
	checkWatched(t, []watchCase{
		{"from above, at High less Slack", alarmOf(2, 9), "11 8", []int64{1, 0}, nil},
		{"from above, one more", alarmOf(2, 9), "11 9", []int64{1, 1}, nil},
		{"from above, at High", alarmOf(2, 9), "11 10 10", []int64{1, 1, 1}, nil},
		{"from above, at Low", alarmOf(2, 9), "11 0", []int64{1, 0}, nil},
		{"from above, at once below Low", alarmOf(2, 9), "11 -1", []int64{1, -1}, nil},
		{"from below, at Low plus Slack", alarmOf(2, 9), "-1 2", []int64{-1, 0}, nil},
		{"from below, one less", alarmOf(2, 9), "-1 1", []int64{-1, -1}, nil},
		{"from below, at Low", alarmOf(2, 9), "-1 0 0", []int64{-1, -1, -1}, nil},
		{"from below, at High", alarmOf(2, 9), "-1 10", []int64{-1, 0}, nil},
		{"from below, at once above High", alarmOf(2, 9), "-1 11", []int64{-1, 1}, nil},
		{"from within no slack helps", alarmOf(2, 9), "9 10 8 9 10", []int64{0, 0, 0, 0, 0}, nil},
		{"the greatest slack", alarmOf(5, 9), "11 6 5 6 -1 4 5 4", []int64{1, 1, 0, 0, -1, -1, 0, 0}, nil},
		{"the greatest, an odd difference", impl.Alarm{High: 11, Low: 0, Slack: 5, Delay: 9}, "12 7 6 -1 4 5", []int64{1, 1, 0, -1, -1, 0}, nil},
		{"it does not flutter", alarmOf(2, 2), "11 9 11 9 11", []int64{1, 1, 11, 11, 11}, []int64{2}},
		{"without slack it would", alarmOf(0, 2), "11 9 11 9 11", []int64{1, 0, 1, 0, 1}, nil},
	})
}

func TestWatchCounts(t *testing.T) {
	checkWatched(t, []watchCase{
		{"no delay", alarmOf(0, 0), "11 11", []int64{11, 11}, []int64{0}},
		{"one fewer", alarmOf(0, 2), "11 11", []int64{1, 1}, nil},
		{"just as many", alarmOf(0, 2), "11 11 11", []int64{1, 1, 11}, []int64{2}},
		{"more", alarmOf(0, 2), "11 11 11 11 11", []int64{1, 1, 11, 11, 11}, []int64{2}},
		{"below, one fewer", alarmOf(0, 2), "-1 -1 5", []int64{-1, -1, 0}, nil},
		{"below, just as many", alarmOf(0, 2), "-1 -1 -1", []int64{-1, -1, 9}, []int64{2}},
		{"left and come back to", alarmOf(0, 2), "11 11 5 11 11 5 11 11 11", []int64{1, 1, 0, 1, 1, 0, 1, 1, 11}, []int64{8}},
		{"from one side to the other", alarmOf(0, 2), "11 11 -1 -1 11 11 -1 -1 -1", []int64{1, 1, -1, -1, 1, 1, -1, -1, 9}, []int64{8}},
		{"the first on the other side counts", alarmOf(0, 1), "11 -1 -1", []int64{1, -1, 9}, []int64{2}},
		{"the slack's samples count", alarmOf(2, 2), "11 9 9", []int64{1, 1, 11}, []int64{2}},
		{"what is not known neither counts nor parts", alarmOf(0, 2), "11 ? 11 ? ? 11 ?", []int64{1, 1, 1, 1, 1, 11, 11}, []int64{5}},
		{"what is not known, first", alarmOf(0, 0), "? ? 11", []int64{0, 0, 11}, []int64{2}},
		{"what is not known, within", alarmOf(0, 0), "5 ? ? 5 ?", []int64{0, 0, 0, 0, 0}, nil},
		{"not known on the side of Low", alarmOf(0, 1), "-1 ? ? -1", []int64{-1, -1, -1, 9}, []int64{3}},
		{"not known, then left", alarmOf(0, 1), "11 ? 5 ? 11 ?", []int64{1, 1, 0, 0, 1, 1}, nil},
	})
}

// With each delay: behind Delay samples not yet, behind one more it sounds; of which some lie within the slack, and some are not known.
func TestWatchOfEachDelay(t *testing.T) {
	for delay := range int64(101) {
		for _, sample := range []int64{11, -1} {
			for _, rest := range []string{"", "?"} {
				var ticks []impl.Tick
				for range delay + 5 {
					ticks = append(append(ticks, impl.Tick{Value: sample, Known: true}), ticksOf(rest)...)
				}
				first := delay * int64(1+len(rest))
				if got := impl.Sounded(alarmOf(3, delay), ticks); !slices.Equal(got, []int64{first}) {
					t.Fatalf("delay %d: %v", delay, got)
				}
				for at, told := range impl.Watch(alarmOf(3, delay), ticks) {
					if sounds := told > 5; sounds != (int64(at) >= first) {
						t.Fatalf("delay %d: %d at %d", delay, told, at)
					}
				}
				if got := impl.Sounded(alarmOf(3, delay), ticks[:first]); len(got) != 0 {
					t.Fatalf("delay %d: %v of one fewer", delay, got)
				}
			}
		}
	}
}

func TestWatchLatches(t *testing.T) {
	checkWatched(t, []watchCase{
		{"it stays until it is heard", alarmOf(0, 0), "11 5 5 ? 5 !5 5", []int64{11, 10, 10, 10, 10, 0, 0}, []int64{0}},
		{"heard where nothing is known", alarmOf(0, 0), "11 5 !? 5", []int64{11, 10, 0, 0}, []int64{0}},
		{"it stays on the other side", alarmOf(0, 1), "11 11 -1 !-1 -1 !-1", []int64{1, 11, 9, 9, 9, -1}, []int64{1, 3}},
		{"heard where nothing sounds", alarmOf(0, 1), "!5 !? !11 !5 !-1 !5", []int64{0, 0, 1, 0, -1, 0}, nil},
		{"heard ahead of the sample at which it would sound", alarmOf(0, 2), "11 !11 11 11", []int64{1, 1, 11, 11}, []int64{2}},
		{"heard at it", alarmOf(0, 2), "11 11 !11 11", []int64{1, 1, 11, 11}, []int64{2}},
		{"heard behind it", alarmOf(0, 2), "11 11 11 !11 11", []int64{1, 1, 11, 1, 1}, []int64{2}},
		{"heard at it, and behind it", alarmOf(0, 2), "11 11 !11 !11 11", []int64{1, 1, 11, 1, 1}, []int64{2}},
		{"heard between, where nothing is known", alarmOf(0, 2), "11 11 !? 11 !? 11", []int64{1, 1, 1, 11, 1, 1}, []int64{3}},
		{"at the first tick", alarmOf(0, 0), "!11 11", []int64{11, 11}, []int64{0}},
		{"heard, and it goes on beyond the bound", alarmOf(0, 1), "11 11 !11 11 11 ? 11 !11 11", []int64{1, 11, 1, 1, 1, 1, 1, 1, 1}, []int64{1}},
		{"heard, and it goes on below the bound", alarmOf(0, 1), "-1 -1 !-1 -1 -1 -1", []int64{-1, 9, -1, -1, -1, -1}, []int64{1}},
		{"heard, and within the slack", alarmOf(2, 1), "11 11 !11 9 11 9 11", []int64{1, 11, 1, 1, 1, 1, 1}, []int64{1}},
		{"heard, left, and come back to", alarmOf(0, 1), "11 11 !11 5 11 11 11", []int64{1, 11, 1, 0, 1, 11, 11}, []int64{1, 5}},
		{"not heard, left, and come back to", alarmOf(0, 1), "11 11 11 5 11 11 11", []int64{1, 11, 11, 10, 11, 11, 11}, []int64{1}},
		{"pressed in the very tick at which it sounds again", alarmOf(0, 1), "11 11 5 11 !11 11", []int64{1, 11, 10, 11, 11, 11}, []int64{1, 4}},
		{"pressed there, on the other side", alarmOf(0, 0), "11 !-1 !11", []int64{11, 9, 11}, []int64{0, 1, 2}},
		{"pressed just ahead of there", alarmOf(0, 1), "11 11 5 !11 11", []int64{1, 11, 10, 1, 11}, []int64{1, 4}},
		{"pressed just behind there", alarmOf(0, 1), "11 11 5 11 11 !11", []int64{1, 11, 10, 11, 11, 1}, []int64{1}},
		{"to the other side without a press", alarmOf(0, 0), "11 -1 11 -1", []int64{11, 9, 11, 9}, []int64{0}},
	})
}

// Promise 9, by what Watch itself tells of the sides: it begins at just the samples that are the one behind Delay in a row, and ends at presses alone.
func TestAlarmsSoundInTimeAndUntilHeard(t *testing.T) {
	coins := rand.New(rand.NewSource(71))
	began, ended := 0, 0
	for range 3000 {
		a, ticks := alarmOf(coins.Int63n(6), coins.Int63n(6)), randomTicks(coins, 150)
		side, row, sounded := int64(0), int64(0), false
		for at, told := range impl.Watch(a, ticks) {
			sounds := told >= 9
			now := told
			if sounds {
				now -= 10
			}
			if !ticks[at].Known && now != side || now < -1 || now > 1 {
				t.Fatalf("%v, %v: %d at %d", a, ticks, told, at)
			}
			if now != side {
				side, row = now, 0
			}
			if ticks[at].Known && side != 0 {
				row++
			}
			inTime := ticks[at].Known && side != 0 && row == a.Delay+1
			until := sounded && !ticks[at].Heard
			if sounds != (inTime || until) {
				t.Fatalf("%v, %v: %d at %d, with %d in a row", a, ticks, told, at, row)
			}
			if sounds && !sounded {
				began++
			} else if sounded && !sounds {
				ended++
			}
			sounded = sounds
		}
	}
	if began < 3000 || ended < 3000 {
		t.Error("hardly any sounded, or was heard:", began, ended)
	}
}

// What began is told once for each: between two places there is a press.
func TestSoundedRises(t *testing.T) {
	coins := rand.New(rand.NewSource(72))
	for range 1000 {
		a, ticks := alarmOf(coins.Int63n(6), coins.Int63n(3)), randomTicks(coins, 200)
		places, told := impl.Sounded(a, ticks), impl.Watch(a, ticks)
		for at, place := range places {
			if told[place] < 9 || !ticks[place].Known {
				t.Fatalf("%v, %v: %d tells %d", a, ticks, place, told[place])
			}
			if at == 0 {
				continue
			}
			between := places[at-1] + 1
			pressed := func(tick impl.Tick) bool { return tick.Heard }
			if between > place || !slices.ContainsFunc(ticks[between:place+1], pressed) {
				t.Fatalf("%v, %v: %v", a, ticks, places)
			}
		}
	}
}

// Bounds and samples turned round: the sides are turned round, and all else is the same.
func TestWatchTurnedRound(t *testing.T) {
	coins := rand.New(rand.NewSource(73))
	for range 500 {
		a, ticks := alarmOf(coins.Int63n(6), coins.Int63n(4)), randomTicks(coins, 100)
		turned := impl.Alarm{High: -a.Low, Low: -a.High, Slack: a.Slack, Delay: a.Delay}
		round := slices.Clone(ticks)
		for at := range round {
			round[at].Value = -round[at].Value
		}
		got := impl.Watch(turned, round)
		for at, told := range impl.Watch(a, ticks) {
			if sounds := told >= 9; sounds && got[at] != 20-told || !sounds && got[at] != -told {
				t.Fatalf("%v, %v: %d at %d, turned %d", a, ticks, told, at, got[at])
			}
		}
		if !slices.Equal(impl.Sounded(turned, round), impl.Sounded(a, ticks)) {
			t.Fatalf("%v, %v", a, ticks)
		}
	}
}

func TestWatchOfABeginning(t *testing.T) {
	coins := rand.New(rand.NewSource(74))
	ticks := randomTicks(coins, 200)
	a := alarmOf(2, 1)
	told, places := impl.Watch(a, ticks), impl.Sounded(a, ticks)
	for count := range ticks {
		if got := impl.Watch(a, ticks[:count]); !slices.Equal(got, told[:count]) {
			t.Fatalf("the first %d: %v", count, got)
		}
		ahead, _ := slices.BinarySearch(places, int64(count))
		if got := impl.Sounded(a, ticks[:count]); !slices.Equal(got, places[:ahead]) {
			t.Fatalf("the first %d: %v", count, got)
		}
	}
}

// Arguments stay, with the room behind them; answers are told anew each time, whatever was done with the last.
func TestAlarmsLeaveTheirArguments(t *testing.T) {
	whole := slices.Concat(ticksOf("11 12 ? !5 -1 -1 !? ?"), ticksOf("77 !78 ?"))
	kept := slices.Clone(whole)
	ticks := whole[:8]
	rungs := []int64{5, 10, 20, 7, 8}
	for range 3 {
		told, places, quiet := impl.Watch(alarmOf(2, 1), ticks), impl.Sounded(alarmOf(2, 1), ticks), impl.Quiet(ticks)
		if called := impl.Ladder(rungs[:3], 15); called != 3 || !slices.Equal(rungs, []int64{5, 10, 20, 7, 8}) {
			t.Fatal(called, rungs)
		}
		if !slices.Equal(whole, kept) {
			t.Fatal("the ticks were changed")
		}
		if !slices.Equal(told, []int64{1, 11, 11, 0, -1, 9, -1, -1}) || !slices.Equal(places, []int64{1, 5}) || !slices.Equal(quiet, ticksOf("11 12 !5 -1 -1 !?")) {
			t.Fatal(told, places, quiet)
		}
		for _, list := range [][]int64{told, places} {
			for at := range list[:cap(list)] {
				list[:cap(list)][at] = -77
			}
		}
		for at := range quiet[:cap(quiet)] {
			quiet[:cap(quiet)][at] = impl.Tick{Value: -77, Known: true}
		}
		if !slices.Equal(whole, kept) {
			t.Fatal("an answer shares its memory with the ticks")
		}
	}
}

// Who sends the ticks has ended when the call answers, whatever it was given.
func TestAlarmsLeaveNobodyBehind(t *testing.T) {
	before := runtime.NumGoroutine()
	many, wrong := beyondOften(2000), append(beyondOften(50), impl.Tick{Value: 1})
	for range 50 {
		for _, ticks := range [][]impl.Tick{nil, many, wrong, beyondOften(2001)} {
			for _, a := range []impl.Alarm{alarmOf(2, 1), {}} {
				impl.Watch(a, ticks)
				impl.Sounded(a, ticks)
			}
			impl.Quiet(ticks)
		}
	}
	// One that has closed its channel may still be on its last step out.
	for range 100 {
		if runtime.NumGoroutine() <= before {
			return
		}
		time.Sleep(10 * time.Millisecond)
	}
	t.Error("goroutines before and behind:", before, runtime.NumGoroutine())
}

// Calls side by side do not meet: each tells what it tells alone.
func TestAlarmsSideBySide(t *testing.T) {
	ticks := beyondOften(2000)
	told, places, quiet := impl.Watch(alarmOf(2, 1), ticks), impl.Sounded(alarmOf(2, 1), ticks), impl.Quiet(ticks)
	same := make([]bool, 8)
	var all sync.WaitGroup
	for at := range same {
		all.Go(func() {
			same[at] = slices.Equal(impl.Watch(alarmOf(2, 1), ticks), told) && slices.Equal(impl.Sounded(alarmOf(2, 1), ticks), places) && slices.Equal(impl.Quiet(ticks), quiet)
		})
	}
	all.Wait()
	if slices.Contains(same, false) {
		t.Error(same)
	}
}
