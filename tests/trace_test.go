package tests

import (
	"math"
	"math/rand"
	"slices"
	"testing"

	"loop.example/g00060/impl"
)

func joined(lists ...[]impl.Step) []impl.Step { return slices.Concat(lists...) }

func TestCycleOfEachPlace(t *testing.T) {
	steps := []impl.Step{
		usedOn(1, 4), washed(1), loaded(1, 7), usedOn(1, 4), passed(7), usedOn(1, 4), usedOn(1, 5), washed(1),
		loaded(1, 0), passed(0), spoilt(1), usedOn(1, 4), washed(1), loaded(1, 999), failed(999), usedOn(1, 4), washed(1),
		washed(2), loaded(1, 8), loaded(2, 8), passed(8), usedOn(2, 9), usedOn(1, 9), spoilt(1),
	}
	want := []int64{-1, -1, -1, -1, -1, 7, -1, -1, -1, -1, -1, -1, -1, -1, -1, -1, -1, -1, -1, -1, -1, 8, 8, -1}
	for at := range steps {
		if got := impl.CycleOf(steps, int64(at)); got != want[at] {
			t.Errorf("at %d: %d, want %d", at, got, want[at])
		}
	}
	for _, at := range []int64{math.MinInt64, -24, -2, -1, 24, 25, 1000, math.MaxInt64} {
		if got := impl.CycleOf(steps, at); got != -1 {
			t.Errorf("at %d: %d", at, got)
		}
	}
	checkSteps(t, steps, 0, 1, 2, 7, 8, 9, 999)
}

func TestCycleOfZero(t *testing.T) {
	steps := append(sterileBy(0, 0), usedOn(0, 0), usedOn(0, 0))
	for at, want := range []int64{-1, -1, -1, 0, -1, -1} {
		if got := impl.CycleOf(steps, int64(at)); got != want {
			t.Errorf("at %d: %d", at, got)
		}
	}
}

// One tray is sterile by one cycle, is used, and sterile by another: each use by its own.
func TestCycleOfATrayTwice(t *testing.T) {
	steps := joined(sterileBy(3, 9), []impl.Step{usedOn(3, 1)}, sterileBy(3, 2), []impl.Step{usedOn(3, 1)})
	if first, second := impl.CycleOf(steps, 3), impl.CycleOf(steps, 7); first != 9 || second != 2 {
		t.Error(first, second)
	}
	if got := impl.CyclesOn(steps, 1); !slices.Equal(got, []int64{2, 9}) {
		t.Error(got)
	}
	if two, nine := impl.Touched(steps, 2), impl.Touched(steps, 9); !slices.Equal(two, []int64{1}) || !slices.Equal(nine, []int64{1}) {
		t.Error(two, nine)
	}
	if state := impl.TrayState(steps, 3); state != 0 {
		t.Error(state)
	}
}

// Washed again while it was sterile, and sterile by another: by that other alone.
func TestCycleOfATrayWashedAgain(t *testing.T) {
	steps := joined(sterileBy(3, 9), sterileBy(3, 2), []impl.Step{usedOn(3, 1)})
	if got := impl.CycleOf(steps, 6); got != 2 {
		t.Error(got)
	}
	if nine, cycles := impl.Touched(steps, 9), impl.CyclesOn(steps, 1); len(nine) != 0 || !slices.Equal(cycles, []int64{2}) {
		t.Error(nine, cycles)
	}
}

// aDay has cycle 5 with the trays 1, 2 and 3, cycle 6 with 4, cycle 7 with 1 again, and cycle 8 that failed.
func aDay() []impl.Step {
	return []impl.Step{
		washed(1), washed(2), washed(3), washed(4), washed(5),
		loaded(1, 5), loaded(2, 5), loaded(3, 5), loaded(4, 6), loaded(5, 8),
		passed(6), passed(5), failed(8),
		usedOn(2, 30), usedOn(1, 10), usedOn(3, 10), usedOn(4, 10), usedOn(5, 40),
		washed(1), loaded(1, 7), passed(7), usedOn(1, 20), usedOn(1, 50), usedOn(2, 60),
	}
}

func TestTouched(t *testing.T) {
	steps := aDay()
	for cycle, want := range map[int64][]int64{5: {10, 30}, 6: {10}, 7: {20}, 8: nil, 0: nil, 4: nil, 10: nil, 999: nil} {
		if got := impl.Touched(steps, cycle); !slices.Equal(got, want) {
			t.Errorf("cycle %d: %v, want %v", cycle, got, want)
		}
	}
	for _, cycle := range []int64{math.MinInt64, -7, -1, 1000, 1005, math.MaxInt64} {
		if got := impl.Touched(steps, cycle); len(got) != 0 {
			t.Errorf("cycle %d: %v", cycle, got)
		}
	}
}

func TestCyclesOn(t *testing.T) {
	steps := aDay()
	for person, want := range map[int64][]int64{10: {5, 6}, 20: {7}, 30: {5}, 40: nil, 50: nil, 60: nil, 0: nil, 5: nil, 999: nil} {
		if got := impl.CyclesOn(steps, person); !slices.Equal(got, want) {
			t.Errorf("person %d: %v, want %v", person, got, want)
		}
	}
	for _, person := range []int64{math.MinInt64, -10, -1, 1000, 1010, math.MaxInt64} {
		if got := impl.CyclesOn(steps, person); len(got) != 0 {
			t.Errorf("person %d: %v", person, got)
		}
	}
}

// At 0 and 999: a step that names no person, or no cycle, is not one of the number 0.
func TestTracesAtTheEdges(t *testing.T) {
	if steps := sterileBy(1, 7); len(impl.CyclesOn(steps, 0)) != 0 || len(impl.Touched(steps, 0)) != 0 {
		t.Error("person 0 or cycle 0 is told where none was used")
	}
	steps := append(sterileBy(1, 7), usedOn(1, 999), spoilt(1))
	if zero, seven := impl.Touched(steps, 0), impl.Touched(steps, 7); len(zero) != 0 || !slices.Equal(seven, []int64{999}) {
		t.Error(zero, seven)
	}
	if zero, last := impl.CyclesOn(steps, 0), impl.CyclesOn(steps, 999); len(zero) != 0 || !slices.Equal(last, []int64{7}) {
		t.Error(zero, last)
	}
	steps = joined(sterileBy(0, 999), sterileBy(999, 0), []impl.Step{usedOn(0, 999), usedOn(999, 0)})
	if zero, last := impl.Touched(steps, 0), impl.Touched(steps, 999); !slices.Equal(zero, []int64{0}) || !slices.Equal(last, []int64{999}) {
		t.Error(zero, last)
	}
	if zero, last := impl.CyclesOn(steps, 0), impl.CyclesOn(steps, 999); !slices.Equal(zero, []int64{0}) || !slices.Equal(last, []int64{999}) {
		t.Error(zero, last)
	}
}

// Somebody who was touched twice by one cycle is told once.
func TestTouchedTwice(t *testing.T) {
	steps := []impl.Step{washed(1), washed(2), washed(3), loaded(1, 5), loaded(2, 5), loaded(3, 5), passed(5), usedOn(3, 8), usedOn(1, 2), usedOn(2, 8)}
	if touched, cycles := impl.Touched(steps, 5), impl.CyclesOn(steps, 8); !slices.Equal(touched, []int64{2, 8}) || !slices.Equal(cycles, []int64{5}) {
		t.Error(touched, cycles)
	}
}

// As many as there can be: a cycle with 333 trays, each used on somebody else; and one person with 250 cycles.
func TestTracesOfMany(t *testing.T) {
	var steps, uses []impl.Step
	for tray := range int64(333) {
		steps = append(steps, washed(tray), loaded(tray, 3))
		uses = append(uses, usedOn(tray, 999-tray))
	}
	steps = append(append(steps, passed(3)), uses...)
	touched := impl.Touched(steps, 3)
	if len(steps) != 1000 || !slices.Equal(touched, peopleTo(667, 333)) {
		t.Error(len(steps), touched)
	}
	var rounds []impl.Step
	for round := range int64(250) {
		rounds = append(append(rounds, sterileBy(5, 999-round)...), usedOn(5, 77))
	}
	if cycles := impl.CyclesOn(rounds, 77); !slices.Equal(cycles, peopleTo(750, 250)) {
		t.Error(cycles)
	}
}

// wasInPassed looks through the codes alone: the tray's last load ahead of the use, and that cycle's pass between.
func wasInPassed(steps []impl.Step, codes []int64, at int) (int64, bool) {
	isPassed := map[int64]bool{}
	for place := at - 1; place >= 0; place-- {
		s := steps[place]
		if codes[place] != 0 {
			continue
		}
		if s.Kind == impl.StPass {
			isPassed[s.Cycle] = true
		} else if s.Kind == impl.StLoad && s.Tray == steps[at].Tray {
			return s.Cycle, isPassed[s.Cycle]
		} else if s.Kind != impl.StFail && s.Tray == steps[at].Tray {
			return 0, false
		}
	}
	return 0, false
}

// Promise 8: a tray that was used was in a cycle that passed; both ends tell the same.
func TestUsedTraysWereInACycleThatPassed(t *testing.T) {
	coins := rand.New(rand.NewSource(63))
	count := 0
	for range 200 {
		steps := randomSteps(coins, 500, 1+coins.Int63n(6), 10+coins.Int63n(50), 1+coins.Int63n(6))
		codes := impl.TrayDo(steps)
		type pair struct{ cycle, person int64 }
		told, byCycle, byPerson := map[pair]bool{}, map[pair]bool{}, map[pair]bool{}
		for at, s := range steps {
			if s.Kind != impl.StUse || codes[at] != 0 {
				if impl.CycleOf(steps, int64(at)) != -1 {
					t.Fatalf("%v: at %d", steps, at)
				}
				continue
			}
			count++
			cycle, is := wasInPassed(steps, codes, at)
			if !is || impl.CycleOf(steps, int64(at)) != cycle {
				t.Fatalf("%v: at %d by %d, %v", steps, at, cycle, is)
			}
			told[pair{cycle, s.Person}] = true
		}
		for number := range int64(60) {
			for _, person := range impl.Touched(steps, number) {
				byCycle[pair{number, person}] = true
			}
			for _, cycle := range impl.CyclesOn(steps, number) {
				byPerson[pair{cycle, number}] = true
			}
		}
		for _, ends := range []map[pair]bool{byCycle, byPerson} {
			if len(ends) != len(told) {
				t.Fatalf("%v: %v, want %v", steps, ends, told)
			}
			for one := range told {
				if !ends[one] {
					t.Fatalf("%v: %v is not told", steps, one)
				}
			}
		}
	}
	if count < 500 {
		t.Error("hardly anything was used:", count)
	}
}

// The lists rise, whatever the order of the uses.
func TestTracesRise(t *testing.T) {
	coins := rand.New(rand.NewSource(64))
	for range 100 {
		steps := randomSteps(coins, 300, 8, 100, 8)
		for number := range int64(101) {
			for _, list := range [][]int64{impl.Touched(steps, number), impl.CyclesOn(steps, number)} {
				for at := 1; at < len(list); at++ {
					if list[at] <= list[at-1] {
						t.Fatalf("%v at %d: %v", steps, number, list)
					}
				}
			}
		}
	}
}

// Arguments stay, with the room behind them; answers are told anew each time, whatever was done with the last.
func TestTraysLeaveTheirArguments(t *testing.T) {
	whole := append(joined(aDay(), sterileBy(9, 30)), usedOn(9, 1), washed(77), spoilt(5))
	kept := slices.Clone(whole)
	steps := whole[:len(aDay())]
	for range 3 {
		codes, touched, cycles := impl.TrayDo(steps), impl.Touched(steps, 5), impl.CyclesOn(steps, 10)
		impl.StepsOk(steps)
		impl.TrayState(steps, 1)
		impl.CycleOf(steps, 14)
		if !slices.Equal(whole, kept) {
			t.Fatal("the steps were changed")
		}
		if len(codes) != len(steps) || codes[17] != impl.TrSterile || !slices.Equal(touched, []int64{10, 30}) || !slices.Equal(cycles, []int64{5, 6}) {
			t.Fatal(codes, touched, cycles)
		}
		for _, list := range [][]int64{codes, touched, cycles} {
			for at := range list[:cap(list)] {
				list[:cap(list)][at] = -77
			}
		}
	}
}
