package tests

import (
	"math"
	"math/rand"
	"slices"
	"testing"

	"loop.example/g00060/impl"
)

// actsIn tells for the states 1 to 5 which acts are for them, from the document's table; AcConfirm and AcStart have more to ask.
var actsIn = [6][]int64{
	1: {1, 2, 5, 6, 9, 10},
	2: {1, 2, 3, 5, 6, 9, 10},
	3: {2, 4, 5, 6, 7},
	4: {1, 2, 3, 5, 6, 9, 10},
	5: {2, 5, 6, 8, 9, 10},
}

// wantedCodes tells all codes that apply; the least of them is named first.
func wantedCodes(p impl.Pump, a impl.Act) []int64 {
	var codes []int64
	add := func(code int64, applies bool) {
		if applies {
			codes = append(codes, code)
		}
	}
	l := p.Limit
	add(8, a.Kind == 10 && p.Left+a.N > 100000000)
	add(8, a.Kind == 7 && p.Given+wantedGiven(p, a) > 100000000)
	add(7, a.Kind == 3 && p.Left == 0)
	add(6, a.Kind == 3 && p.Door)
	add(5, a.Kind == 1 && (a.N < l.SoftLow || a.N > l.SoftHigh))
	add(4, a.Kind == 1 && (a.N < l.HardLow || a.N > l.HardHigh || a.N == 0))
	add(3, within(p.State, 1, 5) && !slices.Contains(actsIn[p.State], a.Kind))
	add(3, a.Kind == 2 && p.Asked == 0)
	add(3, a.Kind == 3 && p.State == 2 && p.Rate == 0)
	add(2, !within(a.Kind, 1, 10))
	add(2, (a.Kind == 1 || a.Kind == 7 || a.Kind == 10) && !within(a.N, 0, 100000))
	add(1, !isPump(p))
	return codes
}

// wantedGiven is what a tick gives, counted by ticks of one each.
func wantedGiven(p impl.Pump, a impl.Act) int64 {
	given := int64(0)
	if a.Kind != 7 || a.N > 100000 {
		return given
	}
	for range a.N {
		given += p.Rate
		if given >= p.Left {
			return p.Left
		}
	}
	return given
}

func wantedDo(p impl.Pump, a impl.Act) (impl.Pump, int64) {
	codes := wantedCodes(p, a)
	if len(codes) == 0 {
		return wantedBehind(p, a), 0
	}
	code := slices.Min(codes)
	switch code {
	case 1:
		return impl.Pump{}, 1
	case 5:
		p.Asked, p.State = a.N, []int64{0, 2, 2, 3, 4, 5}[p.State]
	}
	return p, code
}

// wantedBehind has a line for each line of the document's table.
func wantedBehind(p impl.Pump, a impl.Act) impl.Pump {
	onceSet := []int64{0, 2, 2, 3, 4, 5}[p.State]
	given := wantedGiven(p, a)
	empty := p.Left == given
	switch a.Kind {
	case 1:
		p.Rate, p.Asked, p.State = a.N, 0, onceSet
	case 2:
		p.Rate, p.Asked, p.State = p.Asked, 0, onceSet
	case 3:
		p.State, p.Asked = 3, 0
	case 4:
		p.State = 4
	case 5:
		p.Door, p.State = true, []int64{0, 1, 2, 5, 4, 5}[p.State]
	case 6:
		p.Door = false
	case 7:
		p.Left, p.Given = p.Left-given, p.Given+given
		if empty {
			p.State = 5
		}
	case 8:
		p.State = 2
		if p.Rate > 0 {
			p.State = 4
		}
	case 9:
		p.State, p.Rate, p.Asked = 1, 0, 0
	case 10:
		p.Left += a.N
	}
	return p
}

// checkDo holds PumpDo against the oracle.
func checkDo(t *testing.T, p impl.Pump, a impl.Act) {
	t.Helper()
	want, wantCode := wantedDo(p, a)
	if got, code := impl.PumpDo(p, a); got != want || code != wantCode {
		t.Fatalf("PumpDo(%+v, %+v) = %+v, %d, want %+v, %d", p, a, got, code, want, wantCode)
	}
}

// checkAct asks for a code, and for the pump as change makes it (nil: as it came).
func checkAct(t *testing.T, p impl.Pump, kind, n, code int64, change func(p *impl.Pump)) {
	t.Helper()
	want := p
	if change != nil {
		change(&want)
	}
	if got, gotCode := impl.PumpDo(p, impl.Act{Kind: kind, N: n}); got != want || gotCode != code {
		t.Errorf("%+v, act %d of %d: %+v, %d, want %+v, %d", p, kind, n, got, gotCode, want, code)
	}
	checkDo(t, p, impl.Act{Kind: kind, N: n})
}

// anyN are numbers for the acts that have none to heed.
func anyN() []int64 {
	return []int64{math.MinInt64, -1, 0, 1, 5, 99999, 100000, 100001, math.MaxInt64}
}

func TestActsInEachState(t *testing.T) {
	codes := map[int64][6]int64{ // by the kind, for the states 1 to 5; nothing is asked
		1:  {1: 0, 2: 0, 3: 3, 4: 0, 5: 3},
		2:  {1: 3, 2: 3, 3: 3, 4: 3, 5: 3},
		3:  {1: 3, 2: 0, 3: 3, 4: 0, 5: 3},
		4:  {1: 3, 2: 3, 3: 0, 4: 3, 5: 3},
		5:  {1: 0, 2: 0, 3: 0, 4: 0, 5: 0},
		6:  {1: 0, 2: 0, 3: 0, 4: 0, 5: 0},
		7:  {1: 3, 2: 3, 3: 0, 4: 3, 5: 3},
		8:  {1: 3, 2: 3, 3: 3, 4: 3, 5: 0},
		9:  {1: 0, 2: 0, 3: 3, 4: 0, 5: 0},
		10: {1: 0, 2: 0, 3: 3, 4: 0, 5: 0},
	}
	for kind, row := range codes {
		for state := int64(1); state <= 5; state++ {
			p := pumpIn(state)
			after, code := impl.PumpDo(p, impl.Act{Kind: kind, N: 4})
			if code != row[state] {
				t.Errorf("act %d in state %d: %d, want %d", kind, state, code, row[state])
			}
			if code != 0 && after != p {
				t.Errorf("act %d in state %d: %+v", kind, state, after)
			}
		}
	}
}

func TestActsThatAreNone(t *testing.T) {
	for state := int64(1); state <= 5; state++ {
		for _, kind := range []int64{0, 11, -1, 12, math.MinInt64, math.MaxInt64} {
			for _, n := range anyN() {
				checkAct(t, pumpIn(state), kind, n, 2, nil)
			}
		}
	}
}

func TestNumbersOfActs(t *testing.T) {
	for state := int64(1); state <= 5; state++ {
		for _, kind := range []int64{1, 7, 10} {
			for _, n := range []int64{-1, 100001, math.MinInt64, math.MaxInt64} {
				checkAct(t, pumpIn(state), kind, n, 2, nil)
			}
			for _, n := range []int64{0, 1, 99999, 100000} {
				if _, code := impl.PumpDo(pumpIn(state), impl.Act{Kind: kind, N: n}); code == 2 {
					t.Errorf("act %d of %d in state %d: %d", kind, n, state, code)
				}
				checkDo(t, pumpIn(state), impl.Act{Kind: kind, N: n})
			}
		}
		for _, kind := range []int64{2, 3, 4, 5, 6, 8, 9} {
			want, wantCode := impl.PumpDo(pumpIn(state), impl.Act{Kind: kind})
			for _, n := range anyN() {
				if got, code := impl.PumpDo(pumpIn(state), impl.Act{Kind: kind, N: n}); got != want || code != wantCode || code == 2 {
					t.Errorf("act %d of %d in state %d: %+v, %d", kind, n, state, got, code)
				}
			}
		}
	}
}

func TestRateAtTheLimits(t *testing.T) {
	codes := map[int64]int64{0: 4, 1: 4, 2: 5, 3: 0, 4: 0, 5: 0, 6: 5, 7: 5, 8: 4, 99999: 4, 100000: 4}
	becomes := map[int64]int64{1: 2, 2: 2, 4: 4}
	for n, code := range codes {
		for state, next := range becomes {
			for _, asked := range []int64{0, 2, 6} {
				p := pumpIn(state)
				if state != 1 {
					p.Asked = asked
				}
				checkAct(t, p, 1, n, code, func(p *impl.Pump) {
					switch code {
					case 0:
						p.Rate, p.Asked, p.State = n, 0, next
					case 5:
						p.Asked, p.State = n, next
					}
				})
			}
		}
		checkAct(t, pumpIn(3), 1, n, 3, nil)
		checkAct(t, pumpIn(5), 1, n, 3, nil)
	}
}

func TestRateOfWideAndNarrowLimits(t *testing.T) {
	type row struct {
		l       impl.Limit
		n, code int64
	}
	for _, r := range []row{
		{limitOf(0, 0, 100000, 100000), 0, 4}, {limitOf(0, 0, 100000, 100000), 1, 0}, {limitOf(0, 0, 100000, 100000), 100000, 0},
		{limitOf(0, 1, 99999, 100000), 0, 4}, {limitOf(0, 1, 99999, 100000), 1, 0}, {limitOf(0, 1, 99999, 100000), 99999, 0}, {limitOf(0, 1, 99999, 100000), 100000, 5},
		{limitOf(0, 2, 2, 3), 1, 5}, {limitOf(0, 2, 2, 3), 0, 4}, {limitOf(0, 2, 2, 3), 2, 0}, {limitOf(0, 2, 2, 3), 3, 5}, {limitOf(0, 2, 2, 3), 4, 4},
		{limitOf(0, 0, 0, 5), 0, 4}, {limitOf(0, 0, 0, 5), 1, 5}, {limitOf(0, 0, 0, 5), 5, 5}, {limitOf(0, 0, 0, 5), 6, 4},
		{limitOf(5, 5, 5, 5), 4, 4}, {limitOf(5, 5, 5, 5), 5, 0}, {limitOf(5, 5, 5, 5), 6, 4},
		{limitOf(0, 0, 0, 0), 0, 4}, {limitOf(0, 0, 0, 0), 1, 4}, {limitOf(0, 0, 0, 0), 100000, 4},
		{limitOf(100000, 100000, 100000, 100000), 99999, 4}, {limitOf(100000, 100000, 100000, 100000), 100000, 0}, {limitOf(100000, 100000, 100000, 100000), 0, 4},
	} {
		checkAct(t, impl.Pump{Limit: r.l, State: 1, Left: 9}, 1, r.n, r.code, func(p *impl.Pump) {
			switch r.code {
			case 0:
				p.Rate, p.State = r.n, 2
			case 5:
				p.Asked, p.State = r.n, 2
			}
		})
	}
}

func TestRateStaysUntilConfirmed(t *testing.T) {
	p := pumpIn(4)
	p, code := impl.PumpDo(p, impl.Act{Kind: 1, N: 7})
	if code != 5 || p.Rate != 4 || p.Asked != 7 || p.State != 4 {
		t.Fatalf("%+v, %d", p, code)
	}
	refused, code := impl.PumpDo(p, impl.Act{Kind: 1, N: 8})
	if code != 4 || refused != p {
		t.Fatalf("%+v, %d", refused, code)
	}
	p, code = impl.PumpDo(p, impl.Act{Kind: 2})
	if code != 0 || p.Rate != 7 || p.Asked != 0 || p.State != 4 {
		t.Fatalf("%+v, %d", p, code)
	}
	if again, code := impl.PumpDo(p, impl.Act{Kind: 2}); code != 3 || again != p {
		t.Fatalf("%+v, %d", again, code)
	}
}

func TestConfirm(t *testing.T) {
	for _, asked := range []int64{2, 6, 7} {
		for state := int64(2); state <= 5; state++ {
			p := pumpAs(pumpIn(state), func(p *impl.Pump) { p.Asked = asked })
			checkAct(t, p, 2, 0, 0, func(p *impl.Pump) { p.Rate, p.Asked = asked, 0 })
		}
		for _, state := range []int64{2, 5} {
			p := impl.Pump{Limit: aLimit(), State: state, Asked: asked, Door: true}
			checkAct(t, p, 2, 0, 0, func(p *impl.Pump) { p.Rate, p.Asked = asked, 0 })
		}
		checkAct(t, pumpAs(pumpIn(1), func(p *impl.Pump) { p.Asked = asked }), 2, 0, 1, func(p *impl.Pump) { *p = impl.Pump{} })
	}
	for state := int64(1); state <= 5; state++ {
		checkAct(t, pumpIn(state), 2, 0, 3, nil)
	}
	checkAct(t, impl.Pump{Limit: aLimit(), State: 2}, 2, 0, 3, nil)
}

func TestStart(t *testing.T) {
	for _, state := range []int64{2, 4} {
		for _, asked := range []int64{0, 6} {
			p := pumpAs(pumpIn(state), func(p *impl.Pump) { p.Asked = asked })
			checkAct(t, p, 3, 0, 0, func(p *impl.Pump) { p.State, p.Asked = 3, 0 })
			checkAct(t, pumpAs(p, func(p *impl.Pump) { p.Left = 1 }), 3, 0, 0, func(p *impl.Pump) { p.State, p.Asked = 3, 0 })
			checkAct(t, pumpAs(p, func(p *impl.Pump) { p.Given = 100000000 }), 3, 0, 0, func(p *impl.Pump) { p.State, p.Asked = 3, 0 })
			checkAct(t, pumpAs(p, func(p *impl.Pump) { p.Door = true }), 3, 0, 6, nil)
			checkAct(t, pumpAs(p, func(p *impl.Pump) { p.Left = 0 }), 3, 0, 7, nil)
			checkAct(t, pumpAs(p, func(p *impl.Pump) { p.Door, p.Left = true, 0 }), 3, 0, 6, nil)
		}
	}
	for _, rest := range []impl.Pump{{}, {Door: true}, {Left: 5}, {Door: true, Left: 5}, {Asked: 6, Left: 5}, {Asked: 6, Door: true}} {
		p := pumpAs(rest, func(p *impl.Pump) { p.Limit, p.State = aLimit(), 2 })
		checkAct(t, p, 3, 0, 3, nil)
	}
	for _, state := range []int64{1, 3, 5} {
		checkAct(t, pumpIn(state), 3, 0, 3, nil)
		checkAct(t, pumpAs(pumpIn(state), func(p *impl.Pump) { p.Left = 0 }), 3, 0, 3, nil)
	}
	for _, state := range []int64{1, 5} {
		checkAct(t, pumpAs(pumpIn(state), func(p *impl.Pump) { p.Door, p.Left = true, 0 }), 3, 0, 3, nil)
	}
}

func TestHold(t *testing.T) {
	checkAct(t, pumpIn(3), 4, 0, 0, func(p *impl.Pump) { p.State = 4 })
	asked := pumpAs(pumpIn(3), func(p *impl.Pump) { p.Asked, p.Left = 6, 0 })
	checkAct(t, asked, 4, 0, 0, func(p *impl.Pump) { p.State = 4 })
	for _, state := range []int64{1, 2, 4, 5} {
		checkAct(t, pumpIn(state), 4, 0, 3, nil)
	}
}

func TestDoor(t *testing.T) {
	for state := int64(1); state <= 5; state++ {
		next := state
		if state == 3 {
			next = 5
		}
		checkAct(t, pumpIn(state), 5, 0, 0, func(p *impl.Pump) { p.Door, p.State = true, next })
		checkAct(t, pumpIn(state), 6, 0, 0, nil)
		if state == 3 {
			continue
		}
		open := pumpAs(pumpIn(state), func(p *impl.Pump) { p.Door = true })
		checkAct(t, open, 5, 0, 0, nil)
		checkAct(t, open, 6, 0, 0, func(p *impl.Pump) { p.Door = false })
	}
	asked := pumpAs(pumpIn(3), func(p *impl.Pump) { p.Asked = 6 })
	checkAct(t, asked, 5, 0, 0, func(p *impl.Pump) { p.Door, p.State = true, 5 })
}

func TestTick(t *testing.T) {
	type row struct{ rate, left, given, n, code, leftThen, givenThen, state int64 }
	for _, r := range []row{
		{4, 100, 50, 0, 0, 100, 50, 3},
		{4, 100, 50, 1, 0, 96, 54, 3},
		{4, 100, 50, 24, 0, 4, 146, 3},
		{4, 100, 50, 25, 0, 0, 150, 5},
		{4, 100, 50, 26, 0, 0, 150, 5},
		{4, 99, 50, 25, 0, 0, 149, 5},
		{4, 101, 50, 25, 0, 1, 150, 3},
		{4, 1, 0, 1, 0, 0, 1, 5},
		{4, 0, 50, 0, 0, 0, 50, 5},
		{4, 0, 50, 1, 0, 0, 50, 5},
		{4, 0, 100000000, 100000, 0, 0, 100000000, 5},
		{4, 100, 0, 100000, 0, 0, 100, 5},
		{4, 100, 99999900, 25, 0, 0, 100000000, 5},
		{4, 101, 99999900, 25, 0, 1, 100000000, 3},
		{4, 100, 99999901, 25, 8, 100, 99999901, 3},
		{4, 100, 99999901, 24, 0, 4, 99999997, 3},
		{4, 100, 99999901, 100000, 8, 100, 99999901, 3},
		{4, 100, 100000000, 0, 0, 100, 100000000, 3},
		{4, 100, 100000000, 1, 8, 100, 100000000, 3},
		{4, 1, 99999999, 1, 0, 0, 100000000, 5},
		{4, 1, 100000000, 1, 8, 1, 100000000, 3},
		{4, 3, 99999997, 1, 0, 0, 100000000, 5},
		{4, 5, 99999997, 1, 8, 5, 99999997, 3},
		{7, 100000000, 0, 100000, 0, 99300000, 700000, 3},
	} {
		p := impl.Pump{Limit: aLimit(), State: 3, Rate: r.rate, Left: r.left, Given: r.given}
		checkAct(t, p, 7, r.n, r.code, func(p *impl.Pump) { p.Left, p.Given, p.State = r.leftThen, r.givenThen, r.state })
	}
	wide := impl.Pump{Limit: limitOf(0, 1, 99999, 100000), State: 3, Rate: 100000, Asked: 100000, Left: 100000000}
	checkAct(t, wide, 7, 100000, 0, func(p *impl.Pump) { p.Left, p.Given, p.State = 0, 100000000, 5 })
	checkAct(t, wide, 7, 1000, 0, func(p *impl.Pump) { p.Left, p.Given, p.State = 0, 100000000, 5 })
	checkAct(t, wide, 7, 999, 0, func(p *impl.Pump) { p.Left, p.Given = 100000, 99900000 })
	checkAct(t, pumpAs(wide, func(p *impl.Pump) { p.Given = 1 }), 7, 1000, 8, nil)
	for _, state := range []int64{1, 2, 4, 5} {
		for _, n := range []int64{0, 1, 25, 100000} {
			checkAct(t, pumpIn(state), 7, n, 3, nil)
			full := pumpAs(pumpIn(state), func(p *impl.Pump) { p.Given = 100000000 })
			checkAct(t, full, 7, n, 3, nil)
		}
	}
}

func TestReset(t *testing.T) {
	for _, asked := range []int64{0, 6} {
		for _, open := range []bool{false, true} {
			p := pumpAs(pumpIn(5), func(p *impl.Pump) { p.Asked, p.Door = asked, open })
			checkAct(t, p, 8, 0, 0, func(p *impl.Pump) { p.State = 4 })
			checkAct(t, pumpAs(p, func(p *impl.Pump) { p.Rate, p.Left = 0, 0 }), 8, 0, 0, func(p *impl.Pump) { p.State = 2 })
		}
	}
	for state := int64(1); state <= 4; state++ {
		checkAct(t, pumpIn(state), 8, 0, 3, nil)
	}
}

func TestOff(t *testing.T) {
	for _, state := range []int64{1, 2, 4, 5} {
		for _, asked := range []int64{0, 6} {
			p := pumpIn(state)
			if state != 1 {
				p.Asked = asked
			}
			checkAct(t, p, 9, 0, 0, func(p *impl.Pump) { p.State, p.Rate, p.Asked = 1, 0, 0 })
			p.Door = true
			checkAct(t, p, 9, 0, 0, func(p *impl.Pump) { p.State, p.Rate, p.Asked = 1, 0, 0 })
		}
	}
	checkAct(t, pumpIn(3), 9, 0, 3, nil)
	checkAct(t, pumpAs(pumpIn(3), func(p *impl.Pump) { p.Asked = 6 }), 9, 0, 3, nil)
}

func TestFill(t *testing.T) {
	type row struct{ left, n, code int64 }
	for _, r := range []row{
		{0, 0, 0}, {0, 1, 0}, {0, 100000, 0}, {100, 7, 0},
		{100000000, 0, 0}, {100000000, 1, 8}, {100000000, 100000, 8},
		{99999999, 0, 0}, {99999999, 1, 0}, {99999999, 2, 8},
		{99900000, 99999, 0}, {99900000, 100000, 0}, {99900001, 99999, 0}, {99900001, 100000, 8},
	} {
		for _, state := range []int64{1, 2, 4, 5} {
			p := pumpAs(pumpIn(state), func(p *impl.Pump) { p.Left = r.left })
			checkAct(t, p, 10, r.n, r.code, func(p *impl.Pump) {
				if r.code == 0 {
					p.Left += r.n
				}
			})
		}
		checkAct(t, pumpAs(pumpIn(3), func(p *impl.Pump) { p.Left = r.left }), 10, r.n, 3, nil)
	}
}

// Each case has at least two codes that apply, and the first of them is asked for.
func TestWhichCodeComesFirst(t *testing.T) {
	type row struct {
		p       impl.Pump
		kind, n int64
		code    int64
	}
	wrong := pumpAs(pumpIn(3), func(p *impl.Pump) { p.Door = true })
	empty := pumpAs(pumpIn(4), func(p *impl.Pump) { p.Door, p.Left = true, 0 })
	full := pumpAs(pumpIn(3), func(p *impl.Pump) { p.Left, p.Given = 100000000, 100000000 })
	for _, r := range []row{
		{wrong, 0, 0, 1}, {wrong, 11, 0, 1}, {wrong, 1, -1, 1}, {wrong, 1, 100001, 1}, {wrong, 1, 0, 1}, {wrong, 3, 0, 1}, {wrong, 8, 0, 1},
		{impl.Pump{}, 0, 0, 1}, {impl.Pump{}, 3, 0, 1}, {impl.Pump{}, 7, -1, 1},
		{pumpIn(3), 1, -1, 2}, {pumpIn(5), 1, 100001, 2}, {pumpIn(1), 7, -1, 2}, {pumpIn(2), 7, 100001, 2}, {full, 10, 100001, 2}, {pumpIn(1), 1, 100001, 2}, {pumpIn(1), 1, -1, 2},
		{pumpAs(pumpIn(1), func(p *impl.Pump) { p.Left = 100000000 }), 10, 100001, 2},
		{pumpIn(3), 1, 0, 3}, {pumpIn(3), 1, 8, 3}, {pumpIn(5), 1, 6, 3}, {pumpIn(3), 1, 6, 3}, {full, 10, 1, 3},
		{pumpAs(empty, func(p *impl.Pump) { p.State, p.Rate = 2, 0 }), 3, 0, 3}, {pumpAs(empty, func(p *impl.Pump) { p.State = 5 }), 3, 0, 3},
		{pumpAs(full, func(p *impl.Pump) { p.State = 4 }), 7, 1, 3},
		{pumpIn(1), 1, 1, 4}, {pumpIn(2), 1, 8, 4}, {pumpIn(4), 1, 0, 4},
		{empty, 3, 0, 6},
	} {
		if codes := wantedCodes(r.p, impl.Act{Kind: r.kind, N: r.n}); len(codes) < 2 {
			t.Errorf("%+v, act %d of %d: %v alone", r.p, r.kind, r.n, codes)
		}
		checkAct(t, r.p, r.kind, r.n, r.code, func(p *impl.Pump) {
			if r.code == 1 {
				*p = impl.Pump{}
			}
		})
	}
}

// All pumps of a small world, right and wrong ones, and all acts of it.
func TestAllSmallPumps(t *testing.T) {
	volumes := []int64{-1, 0, 5, 99999998, 100000000, 100000001}
	for _, l := range []impl.Limit{limitOf(1, 2, 3, 4), limitOf(0, 0, 1, 2), limitOf(0, 2, 2, 2), limitOf(2, 2, 3, 3), limitOf(3, 3, 3, 3), {}, limitOf(2, 1, 3, 4)} {
		for number := range 6 * 6 * 7 * 2 * 6 * 6 {
			p := impl.Pump{Limit: l}
			p.Rate, number = int64(number%6), number/6
			p.Asked, number = int64(number%6), number/6
			p.State, number = int64(number%7), number/7
			p.Door, number = number%2 == 1, number/2
			p.Left, p.Given = volumes[number%6], volumes[number/6]
			checkAllActs(t, p)
		}
	}
}

func checkAllActs(t *testing.T, p impl.Pump) {
	if got, want := impl.PumpOk(p), isPump(p); got != want {
		t.Fatalf("PumpOk(%+v) = %v, want %v", p, got, want)
	}
	for kind := int64(0); kind <= 11; kind++ {
		for _, n := range []int64{-1, 0, 1, 2, 3, 4, 5} {
			checkDo(t, p, impl.Act{Kind: kind, N: n})
		}
	}
}

// randomAct is mostly right, and mostly about the rates 1 to 9.
func randomAct(coins *rand.Rand) impl.Act {
	a := impl.Act{Kind: 1 + coins.Int63n(10), N: coins.Int63n(10)}
	switch coins.Intn(30) {
	case 0:
		a.N = anyN()[coins.Intn(len(anyN()))]
	case 1:
		a.Kind = []int64{-1, 0, 11, math.MaxInt64}[coins.Intn(4)]
	}
	return a
}

func randomLimit(coins *rand.Rand) impl.Limit {
	four := []int64{coins.Int63n(10), coins.Int63n(10), coins.Int63n(10), coins.Int63n(10)}
	slices.Sort(four)
	return limitOf(four[0], four[1], four[2], four[3])
}

func TestRandomPumps(t *testing.T) {
	coins := rand.New(rand.NewSource(80))
	volumes := func() int64 { return []int64{coins.Int63n(30), 100000000 - coins.Int63n(30)}[coins.Intn(2)] }
	right := 0
	for range 200000 {
		p := impl.Pump{Limit: randomLimit(coins), Rate: coins.Int63n(10), Asked: coins.Int63n(10), State: 1 + coins.Int63n(5), Door: coins.Intn(3) == 0, Left: volumes(), Given: volumes()}
		if coins.Intn(2) == 0 {
			p.Asked = 0
		}
		if isPump(p) {
			right++
		}
		checkDo(t, p, randomAct(coins))
	}
	if right < 20000 {
		t.Error(right)
	}
}
