package tests

import (
	"maps"
	"math"
	"math/rand"
	"slices"
	"testing"

	"loop.example/g00060/impl"
)

func washed(tray int64) impl.Step { return impl.Step{Kind: impl.StWash, Tray: tray} }

func loaded(tray, cycle int64) impl.Step {
	return impl.Step{Kind: impl.StLoad, Tray: tray, Cycle: cycle}
}

func passed(cycle int64) impl.Step { return impl.Step{Kind: impl.StPass, Cycle: cycle} }

func failed(cycle int64) impl.Step { return impl.Step{Kind: impl.StFail, Cycle: cycle} }

func usedOn(tray, person int64) impl.Step {
	return impl.Step{Kind: impl.StUse, Tray: tray, Person: person}
}

func spoilt(tray int64) impl.Step { return impl.Step{Kind: impl.StSpoil, Tray: tray} }

func isStep(s impl.Step) bool {
	names := map[int64][3]bool{1: {true, false, false}, 2: {true, true, false}, 3: {false, true, false}, 4: {false, true, false}, 5: {true, false, true}, 6: {true, false, false}}
	named, is := names[s.Kind]
	for place, number := range []int64{s.Tray, s.Cycle, s.Person} {
		if named[place] {
			is = is && within(number, 0, 999)
		} else {
			is = is && number == 0
		}
	}
	return is
}

func areSteps(steps []impl.Step) bool {
	for _, s := range steps {
		if !isStep(s) {
			return false
		}
	}
	return len(steps) <= 1000
}

// wantedSteps looks back: done are the steps ahead that were not wrong, and what a tray is follows from the last of them that names it.
type wantedSteps struct{ done []impl.Step }

func (w wantedSteps) endOf(cycle int64) int64 {
	for _, s := range w.done {
		if (s.Kind == 3 || s.Kind == 4) && s.Cycle == cycle {
			return s.Kind
		}
	}
	return 0
}

// lastOf is the last step of the tray itself; its kind is 0 if there is none.
func (w wantedSteps) lastOf(tray int64) impl.Step {
	for _, s := range slices.Backward(w.done) {
		if s.Kind != 3 && s.Kind != 4 && s.Tray == tray {
			return s
		}
	}
	return impl.Step{}
}

func (w wantedSteps) stateOf(tray int64) int64 {
	last := w.lastOf(tray)
	switch {
	case last.Kind == 1:
		return 1
	case last.Kind != 2 || w.endOf(last.Cycle) == 4:
		return 0
	case w.endOf(last.Cycle) == 3:
		return 3
	}
	return 2
}

func (w wantedSteps) anyIn(cycle int64) bool {
	for _, s := range w.done {
		if s.Kind == 2 && s.Cycle == cycle && w.stateOf(s.Tray) == 2 && w.lastOf(s.Tray).Cycle == cycle {
			return true
		}
	}
	return false
}

func (w wantedSteps) codeOf(s impl.Step) int64 {
	switch {
	case s.Kind == 1 && w.stateOf(s.Tray) == 2:
		return 1
	case s.Kind == 2 && w.stateOf(s.Tray) != 1:
		return 2
	case s.Kind == 2 && w.endOf(s.Cycle) != 0:
		return 3
	case (s.Kind == 3 || s.Kind == 4) && (w.endOf(s.Cycle) != 0 || !w.anyIn(s.Cycle)):
		return 3
	case s.Kind == 5 && w.stateOf(s.Tray) != 3:
		return 4
	case s.Kind == 6 && w.stateOf(s.Tray) != 3:
		return 5
	}
	return 0
}

// wantedTrace has the codes, the cycles of the uses (-1 at other steps), and what was done.
func wantedTrace(steps []impl.Step) (codes, cycles []int64, then wantedSteps) {
	for _, s := range steps {
		code, cycle := then.codeOf(s), int64(-1)
		if s.Kind == 5 && code == 0 {
			cycle = then.lastOf(s.Tray).Cycle
		}
		if code == 0 {
			then.done = append(then.done, s)
		}
		codes, cycles = append(codes, code), append(cycles, cycle)
	}
	return codes, cycles, then
}

func inOrder(set map[int64]bool) []int64 { return slices.Sorted(maps.Keys(set)) }

func wantedTouched(steps []impl.Step, cycles []int64, cycle int64) []int64 {
	persons := map[int64]bool{}
	for at, s := range steps {
		if cycles[at] >= 0 && cycles[at] == cycle {
			persons[s.Person] = true
		}
	}
	return inOrder(persons)
}

func wantedCyclesOn(steps []impl.Step, cycles []int64, person int64) []int64 {
	by := map[int64]bool{}
	for at, s := range steps {
		if cycles[at] >= 0 && s.Person == person {
			by[cycles[at]] = true
		}
	}
	return inOrder(by)
}

// checkSteps holds all of the chapter against the oracle, at the numbers asked.
func checkSteps(t *testing.T, steps []impl.Step, asked ...int64) {
	t.Helper()
	if !impl.StepsOk(steps) {
		t.Fatalf("refused: %v", steps)
	}
	codes, cycles, then := wantedTrace(steps)
	if got := impl.TrayDo(steps); !slices.Equal(got, codes) {
		t.Fatalf("TrayDo(%v) = %v, want %v", steps, got, codes)
	}
	for at := range steps {
		if got := impl.CycleOf(steps, int64(at)); got != cycles[at] {
			t.Fatalf("CycleOf(%v, %d) = %d, want %d", steps, at, got, cycles[at])
		}
	}
	for _, n := range asked {
		if got, want := impl.TrayState(steps, n), then.stateOf(n); got != want {
			t.Fatalf("TrayState(%v, %d) = %d, want %d", steps, n, got, want)
		}
		if got, want := impl.Touched(steps, n), wantedTouched(steps, cycles, n); !slices.Equal(got, want) {
			t.Fatalf("Touched(%v, %d) = %v, want %v", steps, n, got, want)
		}
	}
}

func checkCyclesOn(t *testing.T, steps []impl.Step, asked ...int64) {
	t.Helper()
	_, cycles, _ := wantedTrace(steps)
	for _, n := range asked {
		if got, want := impl.CyclesOn(steps, n), wantedCyclesOn(steps, cycles, n); !slices.Equal(got, want) {
			t.Fatalf("CyclesOn(%v, %d) = %v, want %v", steps, n, got, want)
		}
	}
}

// checkNoSteps asks for the fixed answers of a history that is none.
func checkNoSteps(t *testing.T, what string, steps []impl.Step) {
	t.Helper()
	if impl.StepsOk(steps) || len(impl.TrayDo(steps)) != 0 {
		t.Errorf("%s is accepted", what)
	}
	for _, n := range []int64{math.MinInt64, -1, 0, 1, 4, 7, 999, 1000, math.MaxInt64} {
		state, cycle, touched, cycles := impl.TrayState(steps, n), impl.CycleOf(steps, n), impl.Touched(steps, n), impl.CyclesOn(steps, n)
		if state != -1 || cycle != -1 || len(touched) != 0 || len(cycles) != 0 {
			t.Errorf("%s, at %d: %d, %d, %v, %v", what, n, state, cycle, touched, cycles)
		}
	}
}

// sterileBy has the tray washed, in the cycle and sterile by it.
func sterileBy(tray, cycle int64) []impl.Step {
	return []impl.Step{washed(tray), loaded(tray, cycle), passed(cycle)}
}

func randomStep(coins *rand.Rand, tray, cycle, person int64) impl.Step {
	switch coins.Intn(10) {
	case 0, 1:
		return washed(tray)
	case 2, 3, 4:
		return loaded(tray, cycle)
	case 5, 6:
		return passed(cycle)
	case 7:
		return []impl.Step{failed(cycle), spoilt(tray)}[coins.Intn(2)]
	}
	return usedOn(tray, person)
}

// randomSteps goes on through the cycles, so that some are new and some are over all the time.
func randomSteps(coins *rand.Rand, count int, trays, cycles, people int64) []impl.Step {
	steps := make([]impl.Step, count)
	for at := range steps {
		cycle := (int64(at)/15 + coins.Int63n(3)) % cycles
		steps[at] = randomStep(coins, coins.Int63n(trays), cycle, coins.Int63n(people))
	}
	return steps
}

// busySteps goes round and round: each round one tray, by a cycle of its own, used on one person.
func busySteps(count int) []impl.Step {
	var steps []impl.Step
	for round := int64(0); len(steps) < count; round++ {
		steps = append(append(steps, sterileBy(round%7, round)...), usedOn(round%7, round%5))
	}
	return steps[:count]
}

func TestTrayConstants(t *testing.T) {
	kinds := []int64{impl.StWash, impl.StLoad, impl.StPass, impl.StFail, impl.StUse, impl.StSpoil}
	codes := []int64{impl.TrWash, impl.TrDirty, impl.TrCycle, impl.TrSterile, impl.TrNone}
	if impl.MaxSteps != 1000 || !slices.Equal(kinds, []int64{1, 2, 3, 4, 5, 6}) || !slices.Equal(codes, []int64{1, 2, 3, 4, 5}) {
		t.Fatal(impl.MaxSteps, kinds, codes)
	}
}

// Each kind with each of the numbers at its edges; behind a history that is right, ahead of it, and alone.
func TestStepsOkOfEachKind(t *testing.T) {
	edges := []int64{math.MinInt64, -1, 0, 1, 999, 1000, math.MaxInt64}
	right := []impl.Step{washed(3), usedOn(2, 999), loaded(999, 999), passed(0)}
	for _, kind := range []int64{math.MinInt64, -1, 0, 1, 2, 3, 4, 5, 6, 7, 8, math.MaxInt64} {
		for _, tray := range edges {
			for _, cycle := range edges {
				for _, person := range edges {
					s := impl.Step{Kind: kind, Tray: tray, Cycle: cycle, Person: person}
					want := isStep(s)
					alone, behind, ahead := impl.StepsOk([]impl.Step{s}), impl.StepsOk(append(slices.Clone(right), s)), impl.StepsOk(append([]impl.Step{s}, right...))
					if alone != want || behind != want || ahead != want {
						t.Fatalf("%v: %v, %v, %v, want %v", s, alone, behind, ahead, want)
					}
				}
			}
		}
	}
}

func TestWrongSteps(t *testing.T) {
	right := append(sterileBy(1, 7), usedOn(1, 4))
	for what, s := range map[string]impl.Step{
		"kind 0":                     {Kind: 0, Tray: 1},
		"kind 7":                     {Kind: 7, Tray: 1},
		"kind -1":                    {Kind: -1},
		"nothing at all":             {},
		"washing a tray below 0":     washed(-1),
		"washing tray 1000":          washed(1000),
		"washing in a cycle":         {Kind: 1, Tray: 1, Cycle: 1},
		"washing on a person":        {Kind: 1, Tray: 1, Person: 1},
		"loading a tray below 0":     loaded(-1, 1),
		"loading tray 1000":          loaded(1000, 1),
		"loading into cycle 1000":    loaded(1, 1000),
		"loading below cycle 0":      loaded(1, -1),
		"loading on a person":        {Kind: 2, Tray: 1, Cycle: 1, Person: 1},
		"passing cycle 1000":         passed(1000),
		"passing below cycle 0":      passed(-1),
		"passing of a tray":          {Kind: 3, Tray: 1, Cycle: 1},
		"passing on a person":        {Kind: 3, Cycle: 1, Person: 1},
		"failing cycle 1000":         failed(1000),
		"failing below cycle 0":      failed(-1),
		"failing of a tray":          {Kind: 4, Tray: 1, Cycle: 1},
		"failing on a person":        {Kind: 4, Cycle: 1, Person: 1},
		"using tray 1000":            usedOn(1000, 1),
		"using a tray below 0":       usedOn(-1, 1),
		"using on person 1000":       usedOn(1, 1000),
		"using on a person below 0":  usedOn(1, -1),
		"using in a cycle":           {Kind: 5, Tray: 1, Cycle: 1, Person: 1},
		"spoiling tray 1000":         spoilt(1000),
		"spoiling a tray below 0":    spoilt(-1),
		"spoiling in a cycle":        {Kind: 6, Tray: 1, Cycle: 1},
		"spoiling on a person":       {Kind: 6, Tray: 1, Person: 1},
		"a wash in a cycle below 0":  {Kind: 1, Tray: 1, Cycle: -1},
		"a use at the least number":  usedOn(math.MinInt64, 1),
		"a load at the great number": loaded(1, math.MaxInt64),
	} {
		checkNoSteps(t, what, []impl.Step{s})
		checkNoSteps(t, what+", behind", append(slices.Clone(right), s))
		checkNoSteps(t, what+", ahead", append([]impl.Step{s}, right...))
	}
}

func TestHistoriesAtTheLimit(t *testing.T) {
	for _, steps := range [][]impl.Step{nil, {}} {
		if !impl.StepsOk(steps) || len(impl.TrayDo(steps)) != 0 || impl.TrayState(steps, 0) != 0 || impl.TrayState(steps, 999) != 0 || impl.CycleOf(steps, 0) != -1 {
			t.Error("of none")
		}
		if len(impl.Touched(steps, 0)) != 0 || len(impl.CyclesOn(steps, 0)) != 0 || impl.TrayState(steps, -1) != -1 {
			t.Error("of none, traced")
		}
	}
	for _, count := range []int{1, 2, 999, 1000} {
		checkSteps(t, busySteps(count), 0, 1, 2, 6, 7, 248, 249, 250, 999)
		checkCyclesOn(t, busySteps(count), 0, 4, 5)
	}
	if got := impl.CycleOf(busySteps(1000), 999); got != 249 {
		t.Error("the last use is by", got)
	}
	checkNoSteps(t, "one too many", busySteps(1001))
	checkNoSteps(t, "many too many", busySteps(4000))
}

// The states, each with the steps that lead to it: of tray 1, in or by the cycle 7.
func trayStates() map[string][]impl.Step {
	return map[string][]impl.Step{
		"dirty":   nil,
		"washed":  {washed(1)},
		"loaded":  {washed(1), loaded(1, 7)},
		"sterile": sterileBy(1, 7),
		"used":    append(sterileBy(1, 7), usedOn(1, 4)),
		"spoilt":  append(sterileBy(1, 7), spoilt(1)),
		"failed":  {washed(1), loaded(1, 7), failed(7)},
		"again":   append(append(sterileBy(1, 7), usedOn(1, 4)), washed(1)),
	}
}

func TestTrayStateOfEach(t *testing.T) {
	want := map[string]int64{"dirty": 0, "washed": 1, "loaded": 2, "sterile": 3, "used": 0, "spoilt": 0, "failed": 0, "again": 1}
	for name, steps := range trayStates() {
		if got := impl.TrayState(steps, 1); got != want[name] {
			t.Errorf("%s: %d", name, got)
		}
		for _, other := range []int64{0, 2, 4, 7, 999} {
			if got := impl.TrayState(steps, other); got != 0 {
				t.Errorf("%s: no step tells of %d, which is %d", name, other, got)
			}
		}
		for _, none := range []int64{math.MinInt64, -1000, -1, 1000, 1001, math.MaxInt64} {
			if got := impl.TrayState(steps, none); got != -1 {
				t.Errorf("%s: tray %d is %d", name, none, got)
			}
		}
	}
}

// What each step does to a tray in each state: its code, and the state behind it.
func TestEachStepInEachState(t *testing.T) {
	type after struct{ code, state int64 }
	order := []string{"dirty", "washed", "loaded", "sterile", "used", "spoilt", "failed", "again"}
	rows := []struct {
		what string
		step impl.Step
		want []after
	}{
		{"wash", washed(1), []after{{0, 1}, {0, 1}, {1, 2}, {0, 1}, {0, 1}, {0, 1}, {0, 1}, {0, 1}}},
		{"load into a new cycle", loaded(1, 8), []after{{2, 0}, {0, 2}, {2, 2}, {2, 3}, {2, 0}, {2, 0}, {2, 0}, {0, 2}}},
		{"load into the cycle", loaded(1, 7), []after{{2, 0}, {0, 2}, {2, 2}, {2, 3}, {2, 0}, {2, 0}, {2, 0}, {3, 1}}},
		{"pass", passed(7), []after{{3, 0}, {3, 1}, {0, 3}, {3, 3}, {3, 0}, {3, 0}, {3, 0}, {3, 1}}},
		{"fail", failed(7), []after{{3, 0}, {3, 1}, {0, 0}, {3, 3}, {3, 0}, {3, 0}, {3, 0}, {3, 1}}},
		{"pass another", passed(8), []after{{3, 0}, {3, 1}, {3, 2}, {3, 3}, {3, 0}, {3, 0}, {3, 0}, {3, 1}}},
		{"fail another", failed(8), []after{{3, 0}, {3, 1}, {3, 2}, {3, 3}, {3, 0}, {3, 0}, {3, 0}, {3, 1}}},
		{"use", usedOn(1, 4), []after{{4, 0}, {4, 1}, {4, 2}, {0, 0}, {4, 0}, {4, 0}, {4, 0}, {4, 1}}},
		{"spoil", spoilt(1), []after{{5, 0}, {5, 1}, {5, 2}, {0, 0}, {5, 0}, {5, 0}, {5, 0}, {5, 1}}},
		{"wash another", washed(2), []after{{0, 0}, {0, 1}, {0, 2}, {0, 3}, {0, 0}, {0, 0}, {0, 0}, {0, 1}}},
	}
	states := trayStates()
	for _, row := range rows {
		for at, name := range order {
			steps := append(slices.Clone(states[name]), row.step)
			codes := impl.TrayDo(steps)
			if got := (after{codes[len(codes)-1], impl.TrayState(steps, 1)}); len(codes) != len(steps) || got != row.want[at] {
				t.Errorf("%s of one that is %s: %v, want %v", row.what, name, got, row.want[at])
			}
			if slices.ContainsFunc(codes[:len(steps)-1], func(code int64) bool { return code != 0 }) {
				t.Errorf("%s: %v", name, codes)
			}
			checkSteps(t, steps, 0, 1, 2, 7, 8)
		}
	}
}

func TestTrayDo(t *testing.T) {
	cases := []struct {
		what  string
		steps []impl.Step
		codes []int64
	}{
		{"one after another", append(sterileBy(1, 7), usedOn(1, 4)), []int64{0, 0, 0, 0}},
		{"several in a cycle", []impl.Step{washed(1), washed(2), loaded(2, 0), loaded(1, 0), passed(0), usedOn(1, 4), usedOn(2, 4)}, []int64{0, 0, 0, 0, 0, 0, 0}},
		{"one of them is not", []impl.Step{washed(1), washed(2), loaded(2, 0), passed(0), usedOn(1, 4), usedOn(2, 4)}, []int64{0, 0, 0, 0, 4, 0}},
		{"two cycles, one fails", []impl.Step{washed(1), washed(2), loaded(1, 5), loaded(2, 6), failed(5), passed(6), usedOn(1, 4), usedOn(2, 4)}, []int64{0, 0, 0, 0, 0, 0, 4, 0}},
		{"a cycle with none", []impl.Step{passed(1), failed(1), washed(1), loaded(1, 1), passed(1)}, []int64{3, 3, 0, 0, 0}},
		{"passed twice", append(sterileBy(1, 7), passed(7), failed(7)), []int64{0, 0, 0, 3, 3}},
		{"failed twice", []impl.Step{washed(1), loaded(1, 7), failed(7), failed(7), passed(7)}, []int64{0, 0, 0, 3, 3}},
		{"into one that passed", append(sterileBy(1, 7), washed(2), loaded(2, 7), loaded(2, 8)), []int64{0, 0, 0, 0, 3, 0}},
		{"into one that failed", []impl.Step{washed(1), loaded(1, 7), failed(7), washed(1), loaded(1, 7), loaded(1, 8)}, []int64{0, 0, 0, 0, 3, 0}},
		{"a dirty one into one that passed", append(sterileBy(1, 7), loaded(2, 7), loaded(1, 7)), []int64{0, 0, 0, 2, 2}},
		{"used twice", append(sterileBy(1, 7), usedOn(1, 4), usedOn(1, 5)), []int64{0, 0, 0, 0, 4}},
		{"spoilt and used", append(sterileBy(1, 7), spoilt(1), usedOn(1, 5), spoilt(1)), []int64{0, 0, 0, 0, 4, 5}},
		{"used and spoilt", append(sterileBy(1, 7), usedOn(1, 4), spoilt(1)), []int64{0, 0, 0, 0, 5}},
		{"washed when sterile", append(sterileBy(1, 7), washed(1), usedOn(1, 4), loaded(1, 8), passed(8), usedOn(1, 4)), []int64{0, 0, 0, 0, 4, 0, 0, 0}},
		{"loaded twice", []impl.Step{washed(1), loaded(1, 7), loaded(1, 7), loaded(1, 8), passed(8), passed(7)}, []int64{0, 0, 2, 2, 3, 0}},
		{"washed twice", []impl.Step{washed(1), washed(1), loaded(1, 7), washed(1), passed(7)}, []int64{0, 0, 0, 1, 0}},
		{"loaded dirty", []impl.Step{loaded(1, 7), passed(7), usedOn(1, 4)}, []int64{2, 3, 4}},
		{"a tray at the edges", append(sterileBy(0, 0), usedOn(0, 0)), []int64{0, 0, 0, 0}},
		{"at the other edges", append(sterileBy(999, 999), usedOn(999, 999)), []int64{0, 0, 0, 0}},
		{"a cycle is no tray", append(sterileBy(1, 7), usedOn(7, 4), spoilt(7), washed(7)), []int64{0, 0, 0, 4, 5, 0}},
		{"later loads join", []impl.Step{washed(1), loaded(1, 7), washed(2), loaded(2, 7), passed(7), usedOn(2, 4), usedOn(1, 4)}, []int64{0, 0, 0, 0, 0, 0, 0}},
	}
	for _, c := range cases {
		if got := impl.TrayDo(c.steps); !slices.Equal(got, c.codes) {
			t.Errorf("%s: %v, want %v", c.what, got, c.codes)
		}
		checkSteps(t, c.steps, 0, 1, 2, 4, 5, 6, 7, 8, 999)
		checkCyclesOn(t, c.steps, 0, 4, 5, 999)
	}
}

// What is wrong does nothing: the steps without it tell the same of what follows.
func TestWrongStepsDoNothing(t *testing.T) {
	coins := rand.New(rand.NewSource(60))
	for range 300 {
		steps := randomSteps(coins, 60, 4, 8, 3)
		codes := impl.TrayDo(steps)
		var without []impl.Step
		for at, s := range steps {
			if codes[at] == 0 {
				without = append(without, s)
			}
		}
		if slices.ContainsFunc(impl.TrayDo(without), func(code int64) bool { return code != 0 }) {
			t.Fatalf("%v: %v", without, impl.TrayDo(without))
		}
		for n := range int64(8) {
			same := impl.TrayState(steps, n) == impl.TrayState(without, n)
			same = same && slices.Equal(impl.Touched(steps, n), impl.Touched(without, n)) && slices.Equal(impl.CyclesOn(steps, n), impl.CyclesOn(without, n))
			if !same {
				t.Fatalf("%d of %v, and of %v", n, steps, without)
			}
		}
	}
}

func TestRandomHistories(t *testing.T) {
	coins := rand.New(rand.NewSource(61))
	for round := range 600 {
		trays, cycles, people := 1+coins.Int63n(5), 1+coins.Int63n(20), 1+coins.Int63n(4)
		steps := randomSteps(coins, round/4, trays, cycles, people)
		checkSteps(t, steps, 0, 1, 2, 3, 4, 5, 10, 19, 20)
		checkCyclesOn(t, steps, 0, 1, 2, 3, 4)
	}
	for range 4 {
		steps := randomSteps(coins, 1000, 1000, 300, 1000)
		checkSteps(t, steps, 0, 1, 20, 299, 300, 500, 999)
	}
}

// Whatever the ends, the steps ahead of a place have the same codes without those behind it.
func TestTrayDoOfABeginning(t *testing.T) {
	coins := rand.New(rand.NewSource(62))
	steps := randomSteps(coins, 200, 3, 30, 3)
	codes := impl.TrayDo(steps)
	for count := range steps {
		if got := impl.TrayDo(steps[:count]); !slices.Equal(got, codes[:count]) {
			t.Fatalf("the first %d: %v", count, got)
		}
	}
}
