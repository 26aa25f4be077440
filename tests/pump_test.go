package tests

import (
	"math"
	"slices"
	"testing"

	"loop.example/g00060/impl"
)

// limitOf has the limits in the order in which they lie.
func limitOf(hardLow, softLow, softHigh, hardHigh int64) impl.Limit {
	return impl.Limit{HardLow: hardLow, SoftLow: softLow, SoftHigh: softHigh, HardHigh: hardHigh}
}

// aLimit is usual from 3 to 5, and allows 2 to 7.
func aLimit() impl.Limit { return limitOf(2, 3, 5, 7) }

// pumpIn is a right pump in that state, with aLimit and 100 left.
func pumpIn(state int64) impl.Pump {
	p := impl.Pump{Limit: aLimit(), State: state, Left: 100, Given: 50}
	if state != 1 {
		p.Rate = 4
	}
	return p
}

// pumpAs is a right pump with something else in it.
func pumpAs(p impl.Pump, change func(p *impl.Pump)) impl.Pump {
	change(&p)
	return p
}

func isLimit(l impl.Limit) bool {
	return slices.IsSorted([]int64{0, l.HardLow, l.SoftLow, l.SoftHigh, l.HardHigh, 100000})
}

// isPump has one line for each word of the document.
func isPump(p impl.Pump) bool {
	hard := func(n int64) bool { return within(n, p.Limit.HardLow, p.Limit.HardHigh) }
	soft := func(n int64) bool { return within(n, p.Limit.SoftLow, p.Limit.SoftHigh) }
	ranges := within(p.State, 1, 5) && within(p.Rate, 0, 100000) && within(p.Asked, 0, 100000) && within(p.Left, 0, 100000000) && within(p.Given, 0, 100000000)
	asked := p.Asked == 0 || hard(p.Asked) && !soft(p.Asked)
	rate := p.Rate == 0 || hard(p.Rate)
	off := p.State != 1 || p.Rate == 0 && p.Asked == 0
	moving := p.State != 3 && p.State != 4 || p.Rate > 0
	door := !p.Door || p.State != 3
	return ranges && isLimit(p.Limit) && asked && rate && off && moving && door
}

// checkPumpOk asks PumpOk, and for the code of a pump that is none at each act.
func checkPumpOk(t *testing.T, p impl.Pump, want bool) {
	t.Helper()
	if got := impl.PumpOk(p); got != want || isPump(p) != want {
		t.Errorf("PumpOk(%+v) = %v, want %v", p, got, want)
	}
	for kind := int64(-1); kind <= 12; kind++ {
		after, code := impl.PumpDo(p, impl.Act{Kind: kind, N: 4})
		if (code == 1) == want {
			t.Errorf("%+v, act %d: the code %d", p, kind, code)
		}
		if !want && after != (impl.Pump{}) {
			t.Errorf("%+v, act %d: %+v", p, kind, after)
		}
	}
}

// checkNewPump asks NewPump, and PumpPlay without acts for the same.
func checkNewPump(t *testing.T, l impl.Limit, left int64, want bool) {
	t.Helper()
	pump := impl.Pump{}
	if want {
		pump = impl.Pump{Limit: l, State: 1, Left: left}
	}
	if got, ok := impl.NewPump(l, left); ok != want || got != pump {
		t.Errorf("NewPump(%+v, %d) = %+v, %v", l, left, got, ok)
	}
	if got, codes := impl.PumpPlay(l, left, nil); len(codes) != 0 || got != pump {
		t.Errorf("PumpPlay(%+v, %d, nil) = %+v, %v", l, left, got, codes)
	}
}

func TestPumpConstants(t *testing.T) {
	got := []int64{impl.MaxRate, impl.MaxVolume,
		impl.PmOff, impl.PmSet, impl.PmRun, impl.PmHold, impl.PmAlarm,
		impl.PuBad, impl.PuAct, impl.PuState, impl.PuHard, impl.PuSoft, impl.PuDoor, impl.PuEmpty, impl.PuFull,
		impl.AcRate, impl.AcConfirm, impl.AcStart, impl.AcHold, impl.AcOpen, impl.AcClose, impl.AcTick, impl.AcReset, impl.AcOff, impl.AcFill}
	if !slices.Equal(got, []int64{100000, 100000000, 1, 2, 3, 4, 5, 1, 2, 3, 4, 5, 6, 7, 8, 1, 2, 3, 4, 5, 6, 7, 8, 9, 10}) {
		t.Fatal(got)
	}
}

func TestLimits(t *testing.T) {
	for what, l := range map[string]impl.Limit{
		"all 0":                            {},
		"all the same":                     limitOf(5, 5, 5, 5),
		"all at the most":                  limitOf(100000, 100000, 100000, 100000),
		"as wide as can be":                limitOf(0, 0, 100000, 100000),
		"0, and one more each":             limitOf(0, 1, 2, 3),
		"HardLow at SoftLow":               limitOf(3, 3, 5, 7),
		"HardLow one less than SoftLow":    limitOf(2, 3, 5, 7),
		"SoftLow at SoftHigh":              limitOf(2, 5, 5, 7),
		"SoftLow one less than SoftHigh":   limitOf(2, 4, 5, 7),
		"SoftHigh at HardHigh":             limitOf(2, 3, 7, 7),
		"SoftHigh one less than HardHigh":  limitOf(2, 3, 6, 7),
		"HardHigh one less than the most":  limitOf(2, 3, 5, 99999),
		"HardHigh at the most":             limitOf(2, 3, 5, 100000),
		"HardLow one more than the least":  limitOf(1, 3, 5, 7),
		"HardLow at the least":             limitOf(0, 3, 5, 7),
		"the same at both ends":            limitOf(0, 0, 0, 100000),
		"the same at both ends, the other": limitOf(0, 100000, 100000, 100000),
	} {
		if !isLimit(l) {
			t.Errorf("%s is none", what)
		}
		checkNewPump(t, l, 100, true)
		checkPumpOk(t, impl.Pump{Limit: l, State: 1}, true)
		checkPumpOk(t, impl.Pump{Limit: l, State: 2, Door: true}, true)
	}
}

func TestWrongLimits(t *testing.T) {
	for _, l := range []impl.Limit{
		limitOf(-1, 3, 5, 7), limitOf(-1, 0, 0, 0), limitOf(-1, -1, 5, 7), limitOf(-1, -1, -1, -1), limitOf(math.MinInt64, 3, 5, 7),
		limitOf(4, 3, 5, 7), limitOf(1, 0, 0, 1), limitOf(2, -1, 5, 7), limitOf(2, math.MinInt64, 5, 7), limitOf(math.MaxInt64, 3, 5, 7),
		limitOf(2, 6, 5, 7), limitOf(0, 1, 0, 1), limitOf(2, math.MaxInt64, 5, 7), limitOf(2, 3, 2, 7), limitOf(2, 3, math.MinInt64, 7),
		limitOf(2, 3, 8, 7), limitOf(0, 0, 1, 0), limitOf(2, 3, math.MaxInt64, 7), limitOf(2, 3, 5, 4), limitOf(2, 3, 5, math.MinInt64), limitOf(2, 3, 5, -1),
		limitOf(2, 3, 5, 100001), limitOf(100001, 100001, 100001, 100001), limitOf(0, 0, 100001, 100001), limitOf(2, 3, 5, math.MaxInt64), limitOf(2, 3, 100001, 7),
		limitOf(7, 5, 3, 2), limitOf(3, 2, 7, 5), limitOf(math.MinInt64, math.MinInt64, math.MaxInt64, math.MaxInt64),
	} {
		checkNewPump(t, l, 100, false)
		checkNewPump(t, l, 0, false)
		for state := int64(1); state <= 5; state++ {
			checkPumpOk(t, pumpAs(pumpIn(state), func(p *impl.Pump) { p.Limit = l }), false)
			checkPumpOk(t, impl.Pump{Limit: l, State: state}, false)
		}
	}
}

func TestLimitsAtAllEdges(t *testing.T) {
	edges := []int64{math.MinInt64, -1, 0, 1, 2, 3, 99999, 100000, 100001, math.MaxInt64}
	for _, hardLow := range edges {
		for _, softLow := range edges {
			for _, softHigh := range edges {
				for _, hardHigh := range edges {
					l := limitOf(hardLow, softLow, softHigh, hardHigh)
					checkNewPump(t, l, 7, isLimit(l))
				}
			}
		}
	}
}

func TestNewPumpLeft(t *testing.T) {
	for _, left := range []int64{0, 1, 99999999, 100000000} {
		checkNewPump(t, aLimit(), left, true)
		checkNewPump(t, impl.Limit{}, left, true)
		checkNewPump(t, limitOf(-1, 3, 5, 7), left, false)
	}
	for _, left := range []int64{-1, 100000001, math.MinInt64, math.MaxInt64} {
		checkNewPump(t, aLimit(), left, false)
		checkNewPump(t, impl.Limit{}, left, false)
		checkNewPump(t, limitOf(-1, 3, 5, 7), left, false)
	}
}

func TestPumpOkOfStates(t *testing.T) {
	for state := int64(1); state <= 5; state++ {
		checkPumpOk(t, pumpIn(state), true)
	}
	for _, state := range []int64{0, 6, -1, 7, math.MinInt64, math.MaxInt64} {
		checkPumpOk(t, pumpIn(state), false)
		checkPumpOk(t, impl.Pump{Limit: aLimit(), State: state}, false)
	}
	checkPumpOk(t, impl.Pump{}, false)
}

// A rate and something asked, each state and the door: what each state may have.
func TestPumpOkOfEachState(t *testing.T) {
	type row struct {
		rate, asked int64
		open        bool
		states      []int64
	}
	for _, r := range []row{
		{0, 0, false, []int64{1, 2, 5}},
		{0, 0, true, []int64{1, 2, 5}},
		{4, 0, false, []int64{2, 3, 4, 5}},
		{4, 0, true, []int64{2, 4, 5}},
		{0, 6, false, []int64{2, 5}},
		{0, 6, true, []int64{2, 5}},
		{4, 6, false, []int64{2, 3, 4, 5}},
		{4, 6, true, []int64{2, 4, 5}},
		{4, 4, false, nil},
		{8, 0, false, nil},
		{1, 6, true, nil},
	} {
		for state := int64(0); state <= 6; state++ {
			p := impl.Pump{Limit: aLimit(), State: state, Rate: r.rate, Asked: r.asked, Door: r.open, Left: 1, Given: 1}
			checkPumpOk(t, p, slices.Contains(r.states, state))
		}
	}
}

func TestPumpOkOfRates(t *testing.T) {
	right := map[int64]bool{0: true, 2: true, 3: true, 4: true, 5: true, 6: true, 7: true}
	for _, rate := range []int64{math.MinInt64, -4, -1, 0, 1, 2, 3, 4, 5, 6, 7, 8, 99999, 100000, 100001, math.MaxInt64} {
		for _, state := range []int64{2, 5} {
			checkPumpOk(t, pumpAs(pumpIn(state), func(p *impl.Pump) { p.Rate = rate }), right[rate])
		}
		for _, state := range []int64{3, 4} {
			checkPumpOk(t, pumpAs(pumpIn(state), func(p *impl.Pump) { p.Rate = rate }), right[rate] && rate > 0)
		}
		checkPumpOk(t, pumpAs(pumpIn(1), func(p *impl.Pump) { p.Rate = rate }), rate == 0)
	}
	for _, rate := range []int64{math.MinInt64, -1, 0, 1, 99999, 100000, 100001, math.MaxInt64} {
		widest := impl.Pump{Limit: limitOf(0, 0, 100000, 100000), State: 2, Rate: rate}
		checkPumpOk(t, widest, within(rate, 0, 100000))
		top := impl.Pump{Limit: limitOf(100000, 100000, 100000, 100000), State: 2, Rate: rate}
		checkPumpOk(t, top, rate == 0 || rate == 100000)
		none := impl.Pump{State: 2, Rate: rate}
		checkPumpOk(t, none, rate == 0)
	}
}

func TestPumpOkOfWhatIsAsked(t *testing.T) {
	right := map[int64]bool{0: true, 2: true, 6: true, 7: true}
	for _, asked := range []int64{math.MinInt64, -6, -1, 0, 1, 2, 3, 4, 5, 6, 7, 8, 99999, 100000, 100001, math.MaxInt64} {
		for _, state := range []int64{2, 3, 4, 5} {
			checkPumpOk(t, pumpAs(pumpIn(state), func(p *impl.Pump) { p.Asked = asked }), right[asked])
		}
		checkPumpOk(t, pumpAs(pumpIn(1), func(p *impl.Pump) { p.Asked = asked }), asked == 0)
	}
	for _, asked := range []int64{math.MinInt64, -1, 0, 1, 2, 99998, 99999, 100000, 100001, math.MaxInt64} {
		widest := impl.Pump{Limit: limitOf(0, 2, 99998, 100000), State: 2, Asked: asked}
		checkPumpOk(t, widest, asked == 0 || asked == 1 || asked == 99999 || asked == 100000)
		allUsual := impl.Pump{Limit: limitOf(0, 0, 100000, 100000), State: 2, Asked: asked}
		checkPumpOk(t, allUsual, asked == 0)
	}
}

func TestPumpOkOfVolumes(t *testing.T) {
	for state := int64(1); state <= 5; state++ {
		for _, volume := range []int64{math.MinInt64, -1, 0, 1, 99999999, 100000000, 100000001, math.MaxInt64} {
			right := within(volume, 0, 100000000)
			checkPumpOk(t, pumpAs(pumpIn(state), func(p *impl.Pump) { p.Left = volume }), right)
			checkPumpOk(t, pumpAs(pumpIn(state), func(p *impl.Pump) { p.Given = volume }), right)
			checkPumpOk(t, pumpAs(pumpIn(state), func(p *impl.Pump) { p.Left, p.Given = volume, volume }), right)
		}
	}
}
