package tests

import (
	"math"
	"math/big"
	"math/rand"
	"slices"
	"testing"

	"loop.example/g00060/impl"
)

// stepsAway is exact, and below 0 where the value lies below the target.
func stepsAway(target, step, value int64) *big.Rat {
	return new(big.Rat).Quo(new(big.Rat).SetInt64(value-target), new(big.Rat).SetInt64(step))
}

// allFurther asks one by one: are so many up to that place there, and each more than that many steps away on the side (1 or -1)?
func allFurther(steps []*big.Rat, at, count int, far, side int64) bool {
	for back := range count {
		if at-back < 0 || new(big.Rat).Mul(steps[at-back], big.NewRat(side, 1)).Cmp(big.NewRat(far, 1)) <= 0 {
			return false
		}
	}
	return true
}

// controlCodes is all codes that apply at that place.
func controlCodes(steps []*big.Rat, at int) []int64 {
	var codes []int64
	for _, rule := range []struct {
		code  int64
		count int
		far   int64
	}{{1, 1, 3}, {2, 2, 2}, {4, 4, 1}, {5, 10, 0}, {6, 1, 2}} {
		if allFurther(steps, at, rule.count, rule.far, 1) || allFurther(steps, at, rule.count, rule.far, -1) {
			codes = append(codes, rule.code)
		}
	}
	for _, side := range []int64{1, -1} {
		if at > 0 && allFurther(steps, at, 1, 2, side) && allFurther(steps, at-1, 1, 2, -side) {
			codes = append(codes, 3)
		}
	}
	return codes
}

func wantedControl(target, step int64, values []int64) []int64 {
	told := []int64{}
	if !within(target, -100000, 100000) || !within(step, 1, 100000) || len(values) > 2000 {
		return told
	}
	var steps []*big.Rat
	for _, value := range values {
		if !within(value, -100000, 100000) {
			return told
		}
		steps = append(steps, stepsAway(target, step, value))
	}
	for at := range steps {
		codes := controlCodes(steps, at)
		if len(codes) == 0 {
			codes = []int64{0}
		}
		told = append(told, slices.Min(codes))
	}
	return told
}

func checkControl(t *testing.T, what string, target, step int64, values []int64, want ...int64) {
	t.Helper()
	if got := impl.Control(target, step, values); !slices.Equal(got, want) {
		t.Errorf("%s: Control(%d, %d, %v) = %v, want %v", what, target, step, values, got, want)
	}
	if told := wantedControl(target, step, values); !slices.Equal(told, want) {
		t.Errorf("%s: the test itself tells %v, want %v", what, told, want)
	}
}

func checkControlAsTold(t *testing.T, target, step int64, values []int64) []int64 {
	t.Helper()
	got, want := impl.Control(target, step, values), wantedControl(target, step, values)
	if !slices.Equal(got, want) {
		t.Fatalf("Control(%d, %d, %v) = %v, want %v", target, step, values, got, want)
	}
	return got
}

// checkMirrored asks with the target 100 and the step 10 for values that lie so far above the target, and for the same below it.
func checkMirrored(t *testing.T, what string, above []int64, want ...int64) {
	t.Helper()
	var up, down []int64
	for _, n := range above {
		up, down = append(up, 100+n), append(down, 100-n)
	}
	checkControl(t, what+", above", 100, 10, up, want...)
	checkControl(t, what+", below", 100, 10, down, want...)
}

func TestOneControl(t *testing.T) {
	for _, c := range []struct{ above, code int64 }{
		{0, 0}, {1, 0}, {9, 0}, {10, 0}, {11, 0}, {19, 0}, {20, 0}, {21, 6}, {29, 6}, {30, 6}, {31, 1}, {40, 1}, {1000, 1},
	} {
		checkMirrored(t, "one", []int64{c.above}, c.code)
		checkMirrored(t, "behind the target", []int64{0, c.above}, 0, c.code)
		checkMirrored(t, "behind the other side", []int64{-1, c.above}, 0, c.code)
	}
}

func TestTwoControls(t *testing.T) {
	checkMirrored(t, "both further than 2 steps", []int64{21, 21}, 6, 2)
	checkMirrored(t, "the one ahead just 2 steps", []int64{20, 21}, 0, 6)
	checkMirrored(t, "the last just 2 steps", []int64{21, 20}, 6, 0)
	checkMirrored(t, "both just 2 steps", []int64{20, 20}, 0, 0)
	checkMirrored(t, "the one ahead further than 3", []int64{31, 21}, 1, 2)
	checkMirrored(t, "the last further than 3", []int64{21, 31}, 6, 1)
	checkMirrored(t, "both just 3 steps", []int64{30, 30}, 6, 2)
	checkMirrored(t, "three in a row", []int64{21, 30, 21}, 6, 2, 2)
	checkMirrored(t, "parted by one within", []int64{21, 0, 21}, 6, 0, 6)
	checkMirrored(t, "parted by one at 2 steps", []int64{21, 20, 21}, 6, 0, 6)

	checkMirrored(t, "one above, one below", []int64{21, -21}, 6, 3)
	checkMirrored(t, "the one ahead just 2 steps, on the other side", []int64{20, -21}, 0, 6)
	checkMirrored(t, "the last just 2 steps, on the other side", []int64{21, -20}, 6, 0)
	checkMirrored(t, "both just 2 steps, on two sides", []int64{20, -20}, 0, 0)
	checkMirrored(t, "the one ahead further than 3, on the other side", []int64{31, -21}, 1, 3)
	checkMirrored(t, "the last further than 3, on the other side", []int64{21, -31}, 6, 1)
	checkMirrored(t, "to and fro", []int64{21, -21, 21, -30}, 6, 3, 3, 3)
	checkMirrored(t, "to and fro, parted", []int64{21, 5, -21, -5, 21}, 6, 0, 6, 0, 6)
	checkMirrored(t, "there and on", []int64{21, -21, -21, 21}, 6, 3, 2, 3)
}

func TestFourControls(t *testing.T) {
	checkMirrored(t, "four further than 1 step", []int64{11, 11, 11, 11}, 0, 0, 0, 4)
	checkMirrored(t, "three", []int64{11, 20, 11}, 0, 0, 0)
	checkMirrored(t, "five", []int64{11, 20, 11, 20, 11}, 0, 0, 0, 4, 4)
	for at := range 4 {
		row := []int64{11, 12, 13, 14}
		row[at] = 10
		checkMirrored(t, "one of them just 1 step", row, 0, 0, 0, 0)
		row[at] = -11
		checkMirrored(t, "one of them on the other side", row, 0, 0, 0, 0)
		row[at] = 0
		checkMirrored(t, "one of them on the target", row, 0, 0, 0, 0)
	}
	checkMirrored(t, "one further than 2 among them", []int64{11, 21, 11, 11}, 0, 6, 0, 4)
	checkMirrored(t, "the last further than 2", []int64{11, 11, 11, 21}, 0, 0, 0, 4)
	checkMirrored(t, "the last two further than 2", []int64{11, 11, 21, 21}, 0, 0, 6, 2)
	checkMirrored(t, "the last further than 3", []int64{11, 11, 11, 31}, 0, 0, 0, 1)
	checkMirrored(t, "begun anew", []int64{11, 11, 11, 10, 11, 11, 11, 11}, 0, 0, 0, 0, 0, 0, 0, 4)
}

func TestTenControls(t *testing.T) {
	nine := make([]int64, 9)
	row := slices.Repeat([]int64{1}, 10)
	checkMirrored(t, "ten", row, append(nine, 5)...)
	checkMirrored(t, "nine", row[:9], nine...)
	checkMirrored(t, "eleven", append(row, 10), append(nine, 5, 5)...)
	for at := range 10 {
		for _, other := range []int64{0, -1, -10} {
			broken := slices.Clone(row)
			broken[at] = other
			checkMirrored(t, "one of them on the target, or on the other side", broken, append(nine, 0)...)
			behind := append(slices.Clone(broken), row...)
			want := make([]int64, 20)
			for place := at + 10; place < 20; place++ {
				want[place] = 5
			}
			checkMirrored(t, "ten behind it", behind, want...)
		}
	}
	checkMirrored(t, "ten at 1 step", slices.Repeat([]int64{10}, 10), append(nine, 5)...)
	checkMirrored(t, "ten, the last further than 2", []int64{1, 1, 1, 1, 1, 1, 1, 1, 1, 21}, append(nine, 5)...)
	checkMirrored(t, "ten, the last four further than 1", []int64{1, 1, 1, 1, 1, 1, 11, 11, 11, 11}, append(nine, 4)...)
	checkMirrored(t, "ten, the last two further than 2", []int64{1, 1, 1, 1, 1, 1, 1, 1, 21, 21}, 0, 0, 0, 0, 0, 0, 0, 0, 6, 2)
	checkMirrored(t, "ten, the last further than 3", []int64{1, 1, 1, 1, 1, 1, 1, 1, 1, 31}, append(nine, 1)...)
}

// All that can apply at once does: the code named first is told.
func TestSeveralCodesAtOnce(t *testing.T) {
	checkMirrored(t, "1, 2, 4, 5 and 6", slices.Repeat([]int64{31}, 10), slices.Repeat([]int64{1}, 10)...)
	checkMirrored(t, "2, 4, 5 and 6", slices.Repeat([]int64{21}, 10), 6, 2, 2, 2, 2, 2, 2, 2, 2, 2)
	checkMirrored(t, "4 and 5", slices.Repeat([]int64{11}, 10), 0, 0, 0, 4, 4, 4, 4, 4, 4, 4)
	checkMirrored(t, "1, 3 and 6", []int64{31, -31, 31}, 1, 1, 1)
	checkMirrored(t, "3 and 6", []int64{31, -30}, 1, 3)
}

func TestStepsOfControls(t *testing.T) {
	for _, step := range []int64{math.MinInt64, -1, 0, 100001, math.MaxInt64} {
		checkControl(t, "no step", 0, step, []int64{0, 1})
		checkControl(t, "no step, no values", 0, step, nil)
	}
	checkControl(t, "the least step", 5, 1, []int64{5, 6, 7, 8, 9, 5, 3, 2, 1}, 0, 0, 0, 6, 1, 0, 0, 6, 1)
	checkControl(t, "the greatest step", 0, 100000, []int64{100000, -100000, 100000, -100000}, 0, 0, 0, 0)
	checkControl(t, "the greatest step, from an end", -100000, 100000, []int64{100000, 0, 100000, 1, 1, 1, 100000}, 0, 0, 0, 0, 0, 4, 4)
	checkControl(t, "steps from an end", -100000, 99999, []int64{100000, 99998, 100000, 100000}, 6, 0, 6, 2)
	checkControl(t, "3 steps from an end", 100000, 66666, []int64{-99998, -99999, -100000}, 6, 1, 1)
	checkControl(t, "a step that does not divide", 0, 3, []int64{6, 7, 9, 10, -6, -7, -9, -10}, 0, 6, 2, 1, 0, 6, 2, 1)
}

func TestTargetsOfControls(t *testing.T) {
	for _, target := range []int64{math.MinInt64, -100001, 100001, math.MaxInt64} {
		checkControl(t, "no target", target, 1, []int64{0})
		checkControl(t, "no target, no values", target, 1, nil)
	}
	for _, target := range []int64{-100000, -99999, 0, 99999, 100000} {
		checkControl(t, "on the target", target, 1, slices.Repeat([]int64{target}, 12), make([]int64, 12)...)
	}
	checkControl(t, "the least target", -100000, 1, []int64{-100000, -99999, -99997, -99996, 100000}, 0, 0, 6, 1, 1)
	checkControl(t, "the greatest target", 100000, 1, []int64{100000, 99999, 99997, 99996, -100000}, 0, 0, 6, 1, 1)
}

func TestValuesOfControls(t *testing.T) {
	checkControl(t, "none", 0, 1, nil)
	checkControl(t, "none, but not nil", 0, 1, []int64{})
	checkControl(t, "the ends", 0, 50000, []int64{-100000, 100000}, 0, 0)
	checkControl(t, "the ends, further", 0, 49999, []int64{-100000, 100000, 100000}, 6, 3, 2)
	for _, value := range []int64{math.MinInt64, -100001, 100001, math.MaxInt64} {
		for at := range 3 {
			values := []int64{0, 5, 9}
			values[at] = value
			checkControl(t, "one is no value", 0, 1, values)
		}
	}
	many := slices.Repeat([]int64{1}, 2002)
	for _, count := range []int{1999, 2000} {
		if codes := checkControlAsTold(t, 0, 5, many[:count]); len(codes) != count || codes[count-1] != 5 {
			t.Error(count, codes)
		}
	}
	checkControl(t, "one too many", 0, 5, many[:2001])
	checkControl(t, "two too many", 0, 5, many)
	many[1999] = 100001
	checkControl(t, "the last is no value", 0, 5, many[:2000])
}

// randomControls lie near the bounds of the rules, and often stay on their side.
func randomControls(coins *rand.Rand, target, step int64, count int) []int64 {
	values, side := make([]int64, count), int64(1)
	for at := range values {
		if coins.Intn(6) == 0 {
			side = -side
		}
		far := side * (coins.Int63n(4)*step + coins.Int63n(3) - 1)
		if coins.Intn(3) == 0 {
			far = side * coins.Int63n(2*step+1)
		}
		values[at] = min(max(target+far, -100000), 100000)
	}
	return values
}

func TestControlsAsTold(t *testing.T) {
	coins := rand.New(rand.NewSource(111))
	seen := map[int64]int{}
	for range 3000 {
		target := []int64{0, coins.Int63n(200001) - 100000, 100000 - coins.Int63n(30), coins.Int63n(30) - 100000}[coins.Intn(4)]
		step := []int64{1 + coins.Int63n(4), 1 + coins.Int63n(100), 1 + coins.Int63n(100000)}[coins.Intn(3)]
		values := randomControls(coins, target, step, coins.Intn(40))
		for _, code := range checkControlAsTold(t, target, step, values) {
			seen[code]++
		}
	}
	for code := range int64(7) {
		if seen[code] < 100 {
			t.Error(seen)
		}
	}
	checkControlAsTold(t, 7, 9, randomControls(coins, 7, 9, 2000))
}

// What comes behind a control changes nothing of what was told of it.
func TestControlsHangOnWhatIsAhead(t *testing.T) {
	coins := rand.New(rand.NewSource(112))
	values := randomControls(coins, 50, 8, 200)
	codes := impl.Control(50, 8, values)
	for count := range 201 {
		if got := impl.Control(50, 8, values[:count]); !slices.Equal(got, codes[:count]) {
			t.Fatal(count, got)
		}
	}
}

func TestControlsStayAndCodesAreNewMemory(t *testing.T) {
	room := []int64{100, 121, 122, 78, 131, 7, 8, 9}
	before := slices.Clone(room)
	one, other := impl.Control(100, 10, room[:5]), impl.Control(100, 10, room[:5])
	clear(other[:cap(other)])
	if !slices.Equal(one, []int64{0, 6, 2, 3, 1}) || !slices.Equal(room, before) {
		t.Fatal(one, room)
	}
}
