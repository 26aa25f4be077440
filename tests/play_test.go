package tests

import (
	"math"
	"math/rand"
	"slices"
	"testing"

	"loop.example/g00060/impl"
)

// actsOf reads acts, a kind and a number each.
func actsOf(numbers ...int64) []impl.Act {
	var acts []impl.Act
	for at := 0; at+1 < len(numbers); at += 2 {
		acts = append(acts, impl.Act{Kind: numbers[at], N: numbers[at+1]})
	}
	return acts
}

func randomActs(coins *rand.Rand, count int) []impl.Act {
	acts := make([]impl.Act, count)
	for at := range acts {
		acts[at] = randomAct(coins)
	}
	return acts
}

// busyActs has a count of acts that set, start, run dry, open, close, fill and turn off in turn.
func busyActs(count int) []impl.Act {
	turn := actsOf(1, 4, 3, 0, 7, 2, 1, 6, 4, 0, 1, 6, 2, 0, 3, 0, 5, 0, 8, 0, 3, 0, 6, 0, 3, 0, 7, 100000, 8, 0, 3, 0, 10, 100, 1, 9, 9, 0, 0, 0, 2, 5)
	var acts []impl.Act
	for len(acts) < count {
		acts = append(acts, turn...)
	}
	return acts[:count]
}

// wantedPlay goes on by the oracle alone.
func wantedPlay(l impl.Limit, left int64, acts []impl.Act) (impl.Pump, []int64) {
	p := impl.Pump{Limit: l, State: 1, Left: left}
	var codes []int64
	for _, a := range acts {
		after, code := wantedDo(p, a)
		p, codes = after, append(codes, code)
	}
	return p, codes
}

func checkPlay(t *testing.T, l impl.Limit, left int64, acts []impl.Act) {
	t.Helper()
	want, wantCodes := wantedPlay(l, left, acts)
	if got, codes := impl.PumpPlay(l, left, acts); got != want || !slices.Equal(codes, wantCodes) {
		t.Fatalf("PumpPlay(%+v, %d, %v) = %+v, %v, want %+v, %v", l, left, acts, got, codes, want, wantCodes)
	}
}

func checkNoPlay(t *testing.T, what string, l impl.Limit, left int64, acts []impl.Act) {
	t.Helper()
	if got, codes := impl.PumpPlay(l, left, acts); got != (impl.Pump{}) || len(codes) != 0 {
		t.Errorf("%s: %+v, %d codes", what, got, len(codes))
	}
}

func TestPlay(t *testing.T) {
	type row struct {
		acts  []impl.Act
		codes []int64
		pump  impl.Pump
	}
	for _, r := range []row{
		{actsOf(), nil, impl.Pump{State: 1, Left: 20}},
		{actsOf(1, 4), []int64{0}, impl.Pump{State: 2, Rate: 4, Left: 20}},
		{actsOf(1, 6), []int64{5}, impl.Pump{State: 2, Asked: 6, Left: 20}},
		{actsOf(1, 6, 3, 0, 2, 0, 3, 0), []int64{5, 3, 0, 0}, impl.Pump{State: 3, Rate: 6, Left: 20}},
		{actsOf(1, 6, 1, 5, 2, 0), []int64{5, 0, 3}, impl.Pump{State: 2, Rate: 5, Left: 20}},
		{actsOf(1, 4, 1, 6, 3, 0, 2, 0), []int64{0, 5, 0, 3}, impl.Pump{State: 3, Rate: 4, Left: 20}},
		{actsOf(1, 4, 3, 0, 7, 5, 7, 1, 8, 0, 3, 0), []int64{0, 0, 0, 3, 0, 7}, impl.Pump{State: 4, Rate: 4, Given: 20}},
		{actsOf(1, 4, 3, 0, 7, 5, 10, 9, 8, 0, 3, 0, 7, 1), []int64{0, 0, 0, 0, 0, 0, 0}, impl.Pump{State: 3, Rate: 4, Left: 5, Given: 24}},
		{actsOf(1, 4, 3, 0, 9, 0, 4, 0, 9, 0, 3, 0), []int64{0, 0, 3, 0, 0, 3}, impl.Pump{State: 1, Left: 20}},
		{actsOf(5, 0, 1, 4, 3, 0, 6, 0, 3, 0, 5, 0, 6, 0, 7, 1), []int64{0, 0, 6, 0, 0, 0, 0, 3}, impl.Pump{State: 5, Rate: 4, Left: 20}},
		{actsOf(0, 0, 11, 0, 1, -1, 1, 100001, 1, 8, 1, 1), []int64{2, 2, 2, 2, 4, 4}, impl.Pump{State: 1, Left: 20}},
	} {
		r.pump.Limit = aLimit()
		if got, codes := impl.PumpPlay(aLimit(), 20, r.acts); got != r.pump || !slices.Equal(codes, r.codes) {
			t.Errorf("%v: %+v, %v, want %+v, %v", r.acts, got, codes, r.pump, r.codes)
		}
		checkPlay(t, aLimit(), 20, r.acts)
	}
}

func TestPlayAtTheLimit(t *testing.T) {
	for _, none := range [][]impl.Act{nil, {}} {
		if got, codes := impl.PumpPlay(aLimit(), 5, none); got != (impl.Pump{Limit: aLimit(), State: 1, Left: 5}) || len(codes) != 0 {
			t.Errorf("%+v, %v", got, codes)
		}
	}
	for _, count := range []int{1, 2, 999, 1000} {
		checkPlay(t, aLimit(), 5000, busyActs(count))
		checkPlay(t, aLimit(), 5000, make([]impl.Act, count))
		if got, codes := impl.PumpPlay(aLimit(), 5000, busyActs(count)); len(codes) != count || got.Limit != aLimit() {
			t.Errorf("%d: %d, %+v", count, len(codes), got)
		}
	}
	for _, count := range []int{1001, 1002, 5000} {
		checkNoPlay(t, "too many", aLimit(), 5000, busyActs(count))
		checkNoPlay(t, "too many that are none", aLimit(), 5000, make([]impl.Act, count))
	}
}

func TestPlayOfNoPump(t *testing.T) {
	for _, acts := range [][]impl.Act{nil, actsOf(1, 4), busyActs(1000), busyActs(1001), make([]impl.Act, 3)} {
		for _, left := range []int64{-1, 100000001, math.MinInt64, math.MaxInt64} {
			checkNoPlay(t, "left", aLimit(), left, acts)
		}
		for _, l := range []impl.Limit{limitOf(-1, 3, 5, 7), limitOf(4, 3, 5, 7), limitOf(2, 6, 5, 7), limitOf(2, 3, 8, 7), limitOf(2, 3, 5, 100001)} {
			checkNoPlay(t, "a limit", l, 20, acts)
		}
	}
	for _, left := range []int64{0, 1, 100000000} {
		checkPlay(t, aLimit(), left, busyActs(100))
		checkPlay(t, impl.Limit{}, left, busyActs(100))
	}
}

func TestRandomPlays(t *testing.T) {
	coins := rand.New(rand.NewSource(81))
	for round := range 3000 {
		left := []int64{coins.Int63n(40), 100000000 - coins.Int63n(40)}[round%2]
		checkPlay(t, randomLimit(coins), left, randomActs(coins, round/20))
	}
	for range 5 {
		checkPlay(t, aLimit(), 2000, randomActs(coins, 1000))
	}
}

// What a play answers is what its acts answer one by one, and a beginning's codes are the beginning of the codes.
func TestPlayIsOneByOne(t *testing.T) {
	coins := rand.New(rand.NewSource(82))
	for range 300 {
		l, acts := randomLimit(coins), randomActs(coins, 40)
		p, ok := impl.NewPump(l, 30)
		if !ok {
			t.Fatalf("%+v", l)
		}
		_, all := impl.PumpPlay(l, 30, acts)
		for at, a := range acts {
			after, code := impl.PumpDo(p, a)
			p = after
			got, codes := impl.PumpPlay(l, 30, acts[:at+1])
			if got != p || codes[at] != code || !slices.Equal(codes, all[:at+1]) {
				t.Fatalf("%+v, %v: %+v, %v", l, acts[:at+1], got, codes)
			}
		}
	}
}

// checkKept asks for promise 10 of one act, by the pumps ahead of it and behind it alone.
func checkKept(t *testing.T, p impl.Pump, a impl.Act) impl.Pump {
	t.Helper()
	after, code := impl.PumpDo(p, a)
	l := after.Limit
	if !impl.PumpOk(after) || l != p.Limit {
		t.Fatalf("%+v, %+v: %+v is not right", p, a, after)
	}
	if after.State == 3 && (after.Door || after.Rate <= 0 || after.Rate < l.HardLow || after.Rate > l.HardHigh) {
		t.Fatalf("%+v, %+v: %+v runs", p, a, after)
	}
	given := after.Given - p.Given
	if given < 0 || given > p.Left || given > 0 && (p.State != 3 || a.Kind != 7 || code != 0) {
		t.Fatalf("%+v, %+v: %+v gave %d", p, a, after, given)
	}
	filled := int64(0)
	if a.Kind == 10 && code == 0 {
		filled = a.N
	}
	if after.Left != p.Left-given+filled {
		t.Fatalf("%+v, %+v: %+v has lost or won something", p, a, after)
	}
	if code != 0 && code != 5 && after != p {
		t.Fatalf("%+v, %+v: %+v, though refused with %d", p, a, after, code)
	}
	return after
}

func TestPumpStaysRight(t *testing.T) {
	coins := rand.New(rand.NewSource(83))
	ran, dry := 0, 0
	for range 3000 {
		p, ok := impl.NewPump(randomLimit(coins), coins.Int63n(100))
		if !ok {
			t.Fatal("refused")
		}
		for range 100 {
			p = checkKept(t, p, randomAct(coins))
			if p.State == 3 {
				ran++
			}
			if p.State == 5 && p.Left == 0 {
				dry++
			}
		}
	}
	if ran < 5000 || dry < 300 {
		t.Error(ran, dry)
	}
}

// Also of right pumps that no play from the start leads to.
func TestEachRightPumpStaysRight(t *testing.T) {
	coins := rand.New(rand.NewSource(84))
	for range 300000 {
		p := impl.Pump{Limit: randomLimit(coins), Rate: coins.Int63n(10), Asked: coins.Int63n(10), State: 1 + coins.Int63n(5), Door: coins.Intn(2) == 0}
		p.Left, p.Given = coins.Int63n(40), []int64{coins.Int63n(40), 100000000 - coins.Int63n(40)}[coins.Intn(2)]
		if coins.Intn(2) == 0 {
			p.Asked = 0
		}
		if impl.PumpOk(p) {
			checkKept(t, p, randomAct(coins))
		}
	}
}

// Over a whole play: what was given and what is left is what was there and what was filled in, and no more.
func TestGivesOnlyWhatWasThere(t *testing.T) {
	coins := rand.New(rand.NewSource(85))
	for range 2000 {
		l, left, acts := randomLimit(coins), coins.Int63n(200), randomActs(coins, 200)
		p, codes := impl.PumpPlay(l, left, acts)
		there := left
		for at, a := range acts {
			if a.Kind == 10 && codes[at] == 0 {
				there += a.N
			}
		}
		if p.Given+p.Left != there || p.Given > there || !impl.PumpOk(p) {
			t.Fatalf("%+v, %d, %v: %+v of %d", l, left, acts, p, there)
		}
	}
}

func TestPlayLeavesItsActs(t *testing.T) {
	room := make([]impl.Act, 1000)
	for at := range room {
		room[at] = impl.Act{Kind: 77, N: int64(at)}
	}
	acts := room[:copy(room, busyActs(100))]
	before := slices.Clone(room)
	_, codes := impl.PumpPlay(aLimit(), 5000, acts)
	_, again := impl.PumpPlay(aLimit(), 5000, acts)
	if !slices.Equal(room, before) {
		t.Error("an argument was written into")
	}
	if !slices.Equal(codes, again) {
		t.Error("the same is answered otherwise")
	}
	for at := range codes {
		codes[at] = 99
	}
	_, third := impl.PumpPlay(aLimit(), 5000, acts)
	if !slices.Equal(again, third) || !slices.Equal(room, before) {
		t.Error("answers share memory")
	}
}
