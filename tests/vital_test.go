package tests

import (
	"math"
	"math/rand"
	"slices"
	"testing"

	"loop.example/g00060/impl"
)

// The tests of vitals hold the program against the document's table, written out as bands with their points.

type vitalBand struct{ low, high, points int64 }

type vitalLine struct {
	name     string
	from, to int64
	bands    []vitalBand
	set      func(v *impl.Vital, n int64)
	get      func(v impl.Vital) int64
}

func vitalLines() []vitalLine {
	return []vitalLine{
		{"Breaths", 0, 99, []vitalBand{{0, 8, 3}, {25, 99, 3}, {21, 24, 2}, {9, 11, 1}, {12, 20, 0}},
			func(v *impl.Vital, n int64) { v.Breaths = n }, func(v impl.Vital) int64 { return v.Breaths }},
		{"Oxygen", 0, 100, []vitalBand{{0, 91, 3}, {92, 93, 2}, {94, 95, 1}, {96, 100, 0}},
			func(v *impl.Vital, n int64) { v.Oxygen = n }, func(v impl.Vital) int64 { return v.Oxygen }},
		{"Pressure", 0, 400, []vitalBand{{0, 90, 3}, {220, 400, 3}, {91, 100, 2}, {101, 110, 1}, {111, 219, 0}},
			func(v *impl.Vital, n int64) { v.Pressure = n }, func(v impl.Vital) int64 { return v.Pressure }},
		{"Pulse", 0, 400, []vitalBand{{0, 40, 3}, {131, 400, 3}, {111, 130, 2}, {41, 50, 1}, {91, 110, 1}, {51, 90, 0}},
			func(v *impl.Vital, n int64) { v.Pulse = n }, func(v impl.Vital) int64 { return v.Pulse }},
		{"Awake", 0, 1, []vitalBand{{0, 0, 3}, {1, 1, 0}},
			func(v *impl.Vital, n int64) { v.Awake = n }, func(v impl.Vital) int64 { return v.Awake }},
		{"Heat", 200, 460, []vitalBand{{200, 350, 3}, {391, 460, 2}, {351, 360, 1}, {381, 390, 1}, {361, 380, 0}},
			func(v *impl.Vital, n int64) { v.Heat = n }, func(v impl.Vital) int64 { return v.Heat }},
	}
}

func wantedOfLine(line vitalLine, n int64) int64 {
	for _, band := range line.bands {
		if within(n, band.low, band.high) {
			return band.points
		}
	}
	panic(line.name + " has no such number")
}

func isVital(v impl.Vital) bool {
	for _, line := range vitalLines() {
		if n := line.get(v); n != -1 && !within(n, line.from, line.to) {
			return false
		}
	}
	return true
}

func wantedPoints(v impl.Vital) (int64, int64, bool) {
	if !isVital(v) {
		return 0, 0, false
	}
	sum, none, three := int64(0), int64(0), false
	for _, line := range vitalLines() {
		if n := line.get(v); n == -1 {
			none++
		} else {
			sum += wantedOfLine(line, n)
			three = three || wantedOfLine(line, n) == 3
		}
	}
	return sum, none, three
}

func wantedUrgency(v impl.Vital) int64 {
	sum, none, three := wantedPoints(v)
	if !isVital(v) {
		return 0
	}
	if sum >= 7 {
		return 1
	}
	if sum >= 5 || three {
		return 2
	}
	if sum >= 1 {
		return 3
	}
	if none == 0 {
		return 4
	}
	return 5
}

func wantedNextLook(v impl.Vital, time int64) int64 {
	if !isVital(v) || !within(time, 0, 10000000) {
		return -1
	}
	next := time + map[int64]int64{1: 0, 2: 30, 3: 60, 4: 240, 5: 15}[wantedUrgency(v)]
	if next > 10000000 {
		return -1
	}
	return next
}

// wellVital has everything measured, and no points.
func wellVital() impl.Vital {
	return impl.Vital{Breaths: 16, Oxygen: 98, Pressure: 125, Pulse: 70, Awake: 1, Heat: 370}
}

func noVital() impl.Vital {
	return impl.Vital{Breaths: -1, Oxygen: -1, Pressure: -1, Pulse: -1, Awake: -1, Heat: -1}
}

func withField(v impl.Vital, line vitalLine, n int64) impl.Vital {
	line.set(&v, n)
	return v
}

// wildNumbers has, for a field, numbers that it may not have.
func wildNumbers(line vitalLine) []int64 {
	wild := []int64{math.MinInt64, math.MinInt64 + 1, -1000, -3, -2, line.to + 1, line.to + 2, 1000, math.MaxInt64}
	if line.from > 0 {
		wild = append(wild, 0, 1, line.from-2, line.from-1)
	}
	return wild
}

// bandEnds has the first and the last number of each band.
func bandEnds(line vitalLine) []int64 {
	var ends []int64
	for _, band := range line.bands {
		ends = append(ends, band.low, band.high)
	}
	return ends
}

// allVitals has each choice of one number of each band, or none, for the six fields.
func allVitals() []impl.Vital {
	list := []impl.Vital{noVital()}
	for _, line := range vitalLines() {
		var more []impl.Vital
		for _, v := range list {
			more = append(more, v)
			for at, band := range line.bands {
				more = append(more, withField(v, line, []int64{band.low, band.high}[at%2]))
			}
		}
		list = more
	}
	return list
}

func randomVital(coins *rand.Rand) impl.Vital {
	v := noVital()
	for _, line := range vitalLines() {
		if coins.Intn(6) > 0 {
			line.set(&v, line.from+coins.Int63n(line.to-line.from+1))
		}
		if coins.Intn(3) > 0 {
			well := line.get(wellVital())
			line.set(&v, well)
		}
		if coins.Intn(60) == 0 {
			wild := wildNumbers(line)
			line.set(&v, wild[coins.Intn(len(wild))])
		}
	}
	return v
}

func checkPoints(t *testing.T, v impl.Vital) {
	t.Helper()
	sum, none, three := impl.Points(v)
	wantSum, wantNone, wantThree := wantedPoints(v)
	if sum != wantSum || none != wantNone || three != wantThree {
		t.Fatalf("Points(%+v) = %d, %d, %v, want %d, %d, %v", v, sum, none, three, wantSum, wantNone, wantThree)
	}
}

func TestLimitsOfTriage(t *testing.T) {
	got := []int64{impl.MaxQueue, impl.MaxPersons, impl.MaxList, impl.MaxTime}
	if want := []int64{200, 1000, 4096, 10000000}; !slices.Equal(got, want) {
		t.Error(got, want)
	}
}

func TestEachNumberOfAFieldIsInOneBand(t *testing.T) {
	for _, line := range vitalLines() {
		for n := line.from - 1; n <= line.to+1; n++ {
			count := 0
			for _, band := range line.bands {
				if within(n, band.low, band.high) {
					count++
				}
			}
			if want := within(n, line.from, line.to); want != (count == 1) || !want && count > 0 {
				t.Errorf("%s %d is in %d bands", line.name, n, count)
			}
		}
	}
}

func TestVitalOk(t *testing.T) {
	for _, base := range []impl.Vital{wellVital(), noVital()} {
		if !impl.VitalOk(base) {
			t.Errorf("%+v is right", base)
		}
		for _, line := range vitalLines() {
			for _, n := range []int64{-1, line.from, line.from + 1, line.to - 1, line.to} {
				if v := withField(base, line, n); !impl.VitalOk(v) {
					t.Errorf("%s %d: %+v is right", line.name, n, v)
				}
			}
			for _, n := range wildNumbers(line) {
				if v := withField(base, line, n); impl.VitalOk(v) {
					t.Errorf("%s %d: %+v is not right", line.name, n, v)
				}
			}
		}
	}
	if impl.VitalOk(impl.Vital{}) {
		t.Error("the zero Vital has a Heat of 0")
	}
}

func TestVitalOkAndPointsOfEachNumber(t *testing.T) {
	for _, base := range []impl.Vital{wellVital(), noVital()} {
		for _, line := range vitalLines() {
			for n := int64(-10); n <= 500; n++ {
				v := withField(base, line, n)
				if got, want := impl.VitalOk(v), isVital(v); got != want {
					t.Errorf("VitalOk(%+v) = %v", v, got)
				}
				checkPoints(t, v)
			}
		}
	}
}

func TestPointsAtEachBound(t *testing.T) {
	bounds := [][]struct{ n, points int64 }{
		{{0, 3}, {8, 3}, {9, 1}, {11, 1}, {12, 0}, {20, 0}, {21, 2}, {24, 2}, {25, 3}, {99, 3}},
		{{0, 3}, {91, 3}, {92, 2}, {93, 2}, {94, 1}, {95, 1}, {96, 0}, {100, 0}},
		{{0, 3}, {90, 3}, {91, 2}, {100, 2}, {101, 1}, {110, 1}, {111, 0}, {219, 0}, {220, 3}, {400, 3}},
		{{0, 3}, {40, 3}, {41, 1}, {50, 1}, {51, 0}, {90, 0}, {91, 1}, {110, 1}, {111, 2}, {130, 2}, {131, 3}, {400, 3}},
		{{0, 3}, {1, 0}},
		{{200, 3}, {350, 3}, {351, 1}, {360, 1}, {361, 0}, {380, 0}, {381, 1}, {390, 1}, {391, 2}, {460, 2}},
	}
	for at, line := range vitalLines() {
		for _, bound := range bounds[at] {
			sum, none, three := impl.Points(withField(wellVital(), line, bound.n))
			if sum != bound.points || none != 0 || three != (bound.points == 3) {
				t.Errorf("%s %d, the others well: %d, %d, %v", line.name, bound.n, sum, none, three)
			}
			sum, none, three = impl.Points(withField(noVital(), line, bound.n))
			if sum != bound.points || none != 5 || three != (bound.points == 3) {
				t.Errorf("%s %d alone: %d, %d, %v", line.name, bound.n, sum, none, three)
			}
		}
	}
}

func TestPointsOfNothingOneAndAllButOneMeasured(t *testing.T) {
	if sum, none, three := impl.Points(noVital()); sum != 0 || none != 6 || three {
		t.Error("nothing measured:", sum, none, three)
	}
	if sum, none, three := impl.Points(wellVital()); sum != 0 || none != 0 || three {
		t.Error("all measured:", sum, none, three)
	}
	worst := impl.Vital{Breaths: 0, Oxygen: 0, Pressure: 0, Pulse: 0, Awake: 0, Heat: 200}
	if sum, none, three := impl.Points(worst); sum != 18 || none != 0 || !three {
		t.Error("all at their worst:", sum, none, three)
	}
	for _, line := range vitalLines() {
		if sum, none, three := impl.Points(withField(worst, line, -1)); sum != 15 || none != 1 || !three {
			t.Errorf("all but %s: %d, %d, %v", line.name, sum, none, three)
		}
		if sum, none, three := impl.Points(withField(noVital(), line, line.from)); sum != 3 || none != 5 || !three {
			t.Errorf("%s alone: %d, %d, %v", line.name, sum, none, three)
		}
	}
	twos := impl.Vital{Breaths: 24, Oxygen: 93, Pressure: 100, Pulse: 130, Awake: 1, Heat: 460}
	if sum, none, three := impl.Points(twos); sum != 10 || none != 0 || three {
		t.Error("five with 2 points:", sum, none, three)
	}
}

func TestPointsUrgencyAndNextLookOfWhatIsNotOk(t *testing.T) {
	worst := impl.Vital{Breaths: 0, Oxygen: 0, Pressure: 0, Pulse: 0, Awake: 0, Heat: 200}
	for _, base := range []impl.Vital{wellVital(), noVital(), worst} {
		for _, line := range vitalLines() {
			for _, n := range wildNumbers(line) {
				v := withField(base, line, n)
				if sum, none, three := impl.Points(v); sum != 0 || none != 0 || three {
					t.Errorf("Points(%+v) = %d, %d, %v", v, sum, none, three)
				}
				if got := impl.Urgency(v); got != 0 {
					t.Errorf("Urgency(%+v) = %d", v, got)
				}
				if got := impl.NextLook(v, 100); got != -1 {
					t.Errorf("NextLook(%+v, 100) = %d", v, got)
				}
			}
		}
	}
}

func TestUrgency(t *testing.T) {
	cases := []struct {
		what  string
		v     impl.Vital
		sum   int64
		three bool
		want  int64
	}{
		{"all well", wellVital(), 0, false, 4},
		{"nothing measured", noVital(), 0, false, 5},
		{"0, one measured", impl.Vital{Breaths: -1, Oxygen: -1, Pressure: -1, Pulse: 70, Awake: -1, Heat: -1}, 0, false, 5},
		{"0, all but one measured", impl.Vital{Breaths: 16, Oxygen: 98, Pressure: 125, Pulse: 70, Awake: 1, Heat: -1}, 0, false, 5},
		{"1", impl.Vital{Breaths: 9, Oxygen: 98, Pressure: 125, Pulse: 70, Awake: 1, Heat: 370}, 1, false, 3},
		{"1, alone", impl.Vital{Breaths: -1, Oxygen: -1, Pressure: -1, Pulse: -1, Awake: -1, Heat: 390}, 1, false, 3},
		{"2", impl.Vital{Breaths: 16, Oxygen: 93, Pressure: 125, Pulse: 70, Awake: 1, Heat: 370}, 2, false, 3},
		{"3 of three", impl.Vital{Breaths: 9, Oxygen: 95, Pressure: 101, Pulse: 70, Awake: 1, Heat: 370}, 3, false, 3},
		{"3 of one", impl.Vital{Breaths: 16, Oxygen: 98, Pressure: 125, Pulse: 70, Awake: 0, Heat: 370}, 3, true, 2},
		{"3 of one, alone", impl.Vital{Breaths: -1, Oxygen: -1, Pressure: 220, Pulse: -1, Awake: -1, Heat: -1}, 3, true, 2},
		{"4 of two", impl.Vital{Breaths: 24, Oxygen: 92, Pressure: 125, Pulse: 70, Awake: 1, Heat: 370}, 4, false, 3},
		{"4 of five", impl.Vital{Breaths: 16, Oxygen: 94, Pressure: 110, Pulse: 110, Awake: 1, Heat: 360}, 4, false, 3},
		{"4 with a 3", impl.Vital{Breaths: 16, Oxygen: 94, Pressure: 90, Pulse: 70, Awake: 1, Heat: 370}, 4, true, 2},
		{"5 of ones and a two", impl.Vital{Breaths: 9, Oxygen: 94, Pressure: 100, Pulse: 50, Awake: 1, Heat: 370}, 5, false, 2},
		{"5 with a 3", impl.Vital{Breaths: 8, Oxygen: 93, Pressure: 125, Pulse: 70, Awake: 1, Heat: 370}, 5, true, 2},
		{"6 of twos", impl.Vital{Breaths: 21, Oxygen: 92, Pressure: 91, Pulse: -1, Awake: -1, Heat: -1}, 6, false, 2},
		{"6 with two 3", impl.Vital{Breaths: 25, Oxygen: 91, Pressure: 125, Pulse: 70, Awake: 1, Heat: 370}, 6, true, 2},
		{"7 without a 3", impl.Vital{Breaths: 21, Oxygen: 92, Pressure: 91, Pulse: 41, Awake: 1, Heat: 370}, 7, false, 1},
		{"7 with a 3", impl.Vital{Breaths: 25, Oxygen: 92, Pressure: 91, Pulse: 70, Awake: 1, Heat: -1}, 7, true, 1},
		{"8", impl.Vital{Breaths: 21, Oxygen: 92, Pressure: 91, Pulse: 111, Awake: 1, Heat: 370}, 8, false, 1},
		{"18", impl.Vital{Breaths: 99, Oxygen: 0, Pressure: 400, Pulse: 400, Awake: 0, Heat: 350}, 18, true, 1},
	}
	for _, c := range cases {
		sum, _, three := impl.Points(c.v)
		if got := impl.Urgency(c.v); got != c.want || sum != c.sum || three != c.three {
			t.Errorf("%s: urgency %d, sum %d, three %v, want %d, %d, %v", c.what, got, sum, three, c.want, c.sum, c.three)
		}
	}
}

func TestPointsAndUrgencyOfAllBands(t *testing.T) {
	seen := map[int64]int{}
	for _, v := range allVitals() {
		checkPoints(t, v)
		got := impl.Urgency(v)
		if want := wantedUrgency(v); got != want {
			t.Fatalf("Urgency(%+v) = %d, want %d", v, got, want)
		}
		seen[got]++
	}
	for urgency := int64(1); urgency <= 5; urgency++ {
		if seen[urgency] == 0 {
			t.Error("never seen: urgency", urgency)
		}
	}
	if len(seen) != 5 {
		t.Error(seen)
	}
}

func TestPointsUrgencyAndNextLookOfManyVitals(t *testing.T) {
	coins := rand.New(rand.NewSource(41))
	seen := map[int64]int{}
	for range 50000 {
		v := randomVital(coins)
		checkPoints(t, v)
		if got, want := impl.VitalOk(v), isVital(v); got != want {
			t.Fatalf("VitalOk(%+v) = %v", v, got)
		}
		if got, want := impl.Urgency(v), wantedUrgency(v); got != want {
			t.Fatalf("Urgency(%+v) = %d, want %d", v, got, want)
		}
		time := coins.Int63n(600) - 300
		if coins.Intn(2) == 0 {
			time += 10000000
		}
		if got, want := impl.NextLook(v, time), wantedNextLook(v, time); got != want {
			t.Fatalf("NextLook(%+v, %d) = %d, want %d", v, time, got, want)
		}
		seen[impl.Urgency(v)]++
	}
	for urgency := int64(0); urgency <= 5; urgency++ {
		if seen[urgency] < 100 {
			t.Error("too few of urgency", urgency, seen)
		}
	}
}

// Promise 6, its first half.
func TestPointsGrowByWhatIsMeasuredInAddition(t *testing.T) {
	for _, v := range allVitals() {
		sum, none, three := impl.Points(v)
		for _, line := range vitalLines() {
			if line.get(v) != -1 {
				continue
			}
			for _, n := range bandEnds(line) {
				more, fewer, still := impl.Points(withField(v, line, n))
				if more < sum || fewer != none-1 || three && !still {
					t.Fatalf("%+v with %s %d: %d, %d, %v, without: %d, %d, %v", v, line.name, n, more, fewer, still, sum, none, three)
				}
				if alone, _, _ := impl.Points(withField(noVital(), line, n)); more != sum+alone {
					t.Fatalf("%+v with %s %d: %d, but %d and %d", v, line.name, n, more, sum, alone)
				}
			}
		}
	}
}

func TestNextLook(t *testing.T) {
	looks := []struct {
		v       impl.Vital
		minutes int64
	}{
		{impl.Vital{Breaths: 25, Oxygen: 92, Pressure: 91, Pulse: 70, Awake: 1, Heat: 370}, 0},
		{impl.Vital{Breaths: 16, Oxygen: 98, Pressure: 125, Pulse: 70, Awake: 0, Heat: 370}, 30},
		{impl.Vital{Breaths: 16, Oxygen: 95, Pressure: 125, Pulse: 70, Awake: 1, Heat: 370}, 60},
		{wellVital(), 240},
		{noVital(), 15},
	}
	for at, look := range looks {
		if got := impl.Urgency(look.v); got != int64(at)+1 {
			t.Fatalf("Urgency(%+v) = %d", look.v, got)
		}
		for _, time := range []int64{0, 1, 100, 5000000, 10000000 - look.minutes - 1, 10000000 - look.minutes} {
			if got, want := impl.NextLook(look.v, time), time+look.minutes; got != want {
				t.Errorf("NextLook(%+v, %d) = %d, want %d", look.v, time, got, want)
			}
		}
		for _, time := range []int64{math.MinInt64, -241, -60, -30, -15, -1, 10000000 - look.minutes + 1, 10000001, math.MaxInt64 - 240, math.MaxInt64} {
			if got := impl.NextLook(look.v, time); got != -1 {
				t.Errorf("NextLook(%+v, %d) = %d, want -1", look.v, time, got)
			}
		}
		if got := impl.NextLook(look.v, 10000000); got != wantedNextLook(look.v, 10000000) {
			t.Errorf("NextLook(%+v, 10000000) = %d", look.v, got)
		}
	}
}
