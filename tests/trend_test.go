package tests

import (
	"math/rand"
	"slices"
	"testing"

	"loop.example/g00060/impl"
)

func wantedTrend(list []impl.Vital) int64 {
	var sums []int64
	for _, v := range list {
		if sum, none, _ := wantedPoints(v); isVital(v) && none == 0 {
			sums = append(sums, sum)
		}
	}
	if len(list) > 4096 || len(sums) < 2 {
		return 0
	}
	return sums[len(sums)-1] - sums[len(sums)-2]
}

// looksAt has a look with everything measured for each of these points: 0 to 3.
func looksAt(points ...int64) []impl.Vital {
	var list []impl.Vital
	for _, n := range points {
		v := wellVital()
		v.Oxygen = []int64{98, 95, 93, 91}[n]
		list = append(list, v)
	}
	return list
}

func TestTrend(t *testing.T) {
	whole := looksAt(0, 1, 2, 3)
	well, one, two, three := whole[0], whole[1], whole[2], whole[3]
	none, lacks, wrong := noVital(), well, well
	lacks.Heat, wrong.Heat = -1, 461
	worst := impl.Vital{Breaths: 0, Oxygen: 0, Pressure: 0, Pulse: 0, Awake: 0, Heat: 200}
	worstLacks, worstWrong := worst, worst
	worstLacks.Breaths, worstWrong.Breaths = -1, -2
	cases := []struct {
		what string
		list []impl.Vital
		want int64
	}{
		{"nothing", nil, 0},
		{"an empty list", []impl.Vital{}, 0},
		{"one", []impl.Vital{three}, 0},
		{"two, worse", []impl.Vital{well, three}, 3},
		{"two, better", []impl.Vital{three, one}, -2},
		{"two, the same", []impl.Vital{two, two}, 0},
		{"from none to all points", []impl.Vital{well, worst}, 18},
		{"from all points to none", []impl.Vital{worst, well}, -18},
		{"only the last two", []impl.Vital{worst, one, two, one, three}, 2},
		{"none that counts", []impl.Vital{none, lacks, wrong, worstLacks, worstWrong}, 0},
		{"one that counts, the last", []impl.Vital{worstLacks, worstWrong, lacks, wrong, three}, 0},
		{"one that counts, the first", []impl.Vital{three, worstLacks, worstWrong, lacks, wrong}, 0},
		{"one that counts, between", []impl.Vital{worstWrong, three, worstLacks}, 0},
		{"the last is not right", []impl.Vital{one, three, worstWrong}, 2},
		{"the last lacks something", []impl.Vital{one, three, worstLacks}, 2},
		{"the one ahead is not right", []impl.Vital{one, wrong, three}, 2},
		{"the one ahead lacks something", []impl.Vital{one, lacks, three}, 2},
		{"nothing measured between", []impl.Vital{one, none, three, none}, 2},
		{"many between", []impl.Vital{worst, two, lacks, wrong, none, worstLacks, worstWrong, three, wrong, lacks}, 1},
		{"zero vitals", []impl.Vital{{}, {}, {}}, 0},
	}
	for _, c := range cases {
		if got := impl.Trend(c.list); got != c.want {
			t.Errorf("%s: Trend(%v) = %d, want %d", c.what, c.list, got, c.want)
		}
		if got := wantedTrend(c.list); got != c.want {
			t.Errorf("%s: the oracle tells %d, want %d", c.what, got, c.want)
		}
	}
}

func TestTrendLeavesOutEachFieldThatLacksOrIsWrong(t *testing.T) {
	ends := looksAt(1, 3)
	for _, line := range vitalLines() {
		for _, n := range append(wildNumbers(line), -1) {
			between := withField(wellVital(), line, n)
			for _, list := range [][]impl.Vital{{ends[0], between, ends[1]}, {ends[0], ends[1], between}, {between, ends[0], ends[1]}} {
				if got := impl.Trend(list); got != 2 {
					t.Errorf("%s %d: Trend(%v) = %d, want 2", line.name, n, list, got)
				}
			}
			if got := impl.Trend([]impl.Vital{between, ends[1]}); got != 0 {
				t.Errorf("%s %d: just one counts, but %d", line.name, n, got)
			}
		}
	}
}

func TestTrendLimits(t *testing.T) {
	list := slices.Repeat([]impl.Vital{wellVital()}, 4094)
	list = append(list, looksAt(0, 3)...)
	if got := impl.Trend(list); len(list) != 4096 || got != 3 {
		t.Error("4096 looks:", got)
	}
	if got := impl.Trend(append([]impl.Vital{wellVital()}, list...)); got != 0 {
		t.Error("4097 looks:", got)
	}
	if got := impl.Trend(append([]impl.Vital{noVital()}, list...)); got != 0 {
		t.Error("4097 looks, of which 4096 count:", got)
	}
	if got := impl.Trend(slices.Repeat(list, 3)); got != 0 {
		t.Error("far too many looks:", got)
	}
	apart := slices.Repeat([]impl.Vital{noVital()}, 4096)
	apart[0], apart[4095] = looksAt(1)[0], looksAt(3)[0]
	if got := impl.Trend(apart); got != 2 {
		t.Error("the first and the last of 4096:", got)
	}
}

func TestTrendOfManyLists(t *testing.T) {
	coins := rand.New(rand.NewSource(42))
	other := 0
	for range 5000 {
		list := make([]impl.Vital, coins.Intn(12))
		for at := range list {
			list[at] = randomVital(coins)
		}
		before := slices.Clone(list)
		want := wantedTrend(list)
		if got := impl.Trend(list); got != want {
			t.Fatalf("Trend(%v) = %d, want %d", list, got, want)
		}
		if !slices.Equal(before, list) {
			t.Fatal("Trend wrote into its argument")
		}
		if want != 0 {
			other++
		}
	}
	if other < 500 {
		t.Error("too few that are not 0:", other)
	}
}
