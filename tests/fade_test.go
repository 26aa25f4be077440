package tests

import (
	"math"
	"math/big"
	"math/rand"
	"testing"

	"loop.example/g00060/impl"
)

var (
	minusNought = math.Copysign(0, -1)
	notMeasured = math.NaN()
	endless     = math.Inf(1)
)

// sameFloat is the document's sameness: a nought's sign counts, and NaN is NaN.
func sameFloat(a, b float64) bool {
	if math.IsNaN(a) || math.IsNaN(b) {
		return math.IsNaN(a) && math.IsNaN(b)
	}
	return a == b && math.Signbit(a) == math.Signbit(b)
}

func sameFloats(a, b []float64) bool {
	if len(a) != len(b) {
		return false
	}
	for i := range a {
		if !sameFloat(a[i], b[i]) {
			return false
		}
	}
	return true
}

// roughFloats are numbers whose sums and products must be rounded, none near the ends of what a float holds.
func roughFloats(coins *rand.Rand, count int) []float64 {
	list := make([]float64, count)
	for i := range list {
		list[i] = (coins.Float64() - 0.5) * math.Pow(10, float64(coins.Intn(12)-6))
	}
	return list
}

// A big.Float of 53 bits rounds each operation by itself, whatever a compiler fuses.
func rounded(x float64) *big.Float {
	return new(big.Float).SetPrec(53).SetFloat64(x)
}

func fadeByBig(start, rate float64, doses []float64) []float64 {
	var list []float64
	there := rounded(start)
	for _, dose := range doses {
		gone := new(big.Float).SetPrec(53).Mul(there, rounded(rate))
		kept := new(big.Float).SetPrec(53).Sub(there, gone)
		there = new(big.Float).SetPrec(53).Add(kept, rounded(dose))
		told, _ := there.Float64()
		list = append(list, told)
	}
	return list
}

func meanByBig(list []float64) float64 {
	sum := rounded(0)
	for _, x := range list {
		sum = new(big.Float).SetPrec(53).Add(sum, rounded(x))
	}
	mean, _ := new(big.Float).SetPrec(53).Quo(sum, rounded(float64(len(list)))).Float64()
	return mean
}

func TestFade(t *testing.T) {
	for _, c := range []struct {
		start, rate float64
		doses, want []float64
	}{
		{8, 0.5, []float64{0, 2, 1}, []float64{4, 4, 3}},
		{8, 0.5, nil, nil},
		{8, 0, []float64{1, 1}, []float64{9, 10}},
		{8, 1, []float64{3, 5}, []float64{3, 5}},
		{1, 2, []float64{0, 0}, []float64{-1, 1}},
		{4, -0.5, []float64{-1}, []float64{5}},
		// What is there less what fades comes first, the dose behind it.
		{1, 1e16, []float64{1e16}, []float64{0}},
		{1e16, 0, []float64{1, 1}, []float64{1e16, 1e16}},
		{0.1, 0.3, []float64{0}, []float64{0.07}},
		{0.7, 0.1, []float64{0}, []float64{0.63}},
		{0, 0.5, []float64{0}, []float64{0}},
		{minusNought, 0.5, []float64{minusNought}, []float64{0}},
		{minusNought, minusNought, []float64{minusNought}, []float64{minusNought}},
		{minusNought, -1, []float64{minusNought, minusNought}, []float64{minusNought, minusNought}},
		{minusNought, -1, []float64{0}, []float64{0}},
		{notMeasured, 0, []float64{1, 2}, []float64{notMeasured, notMeasured}},
		{1, notMeasured, []float64{1}, []float64{notMeasured}},
		{1, 0.5, []float64{notMeasured, 1}, []float64{notMeasured, notMeasured}},
		{endless, 0.5, []float64{1}, []float64{notMeasured}},
		{1, 0, []float64{endless, 1}, []float64{endless, notMeasured}},
		{1, endless, []float64{1}, []float64{math.Inf(-1)}},
		{math.MaxFloat64, 0, []float64{math.MaxFloat64}, []float64{endless}},
		{5e-324, 0.5, []float64{0}, []float64{5e-324}},
	} {
		if got := impl.Fade(c.start, c.rate, c.doses); !sameFloats(got, c.want) {
			t.Error(c, got)
		}
	}
}

func TestFadeRoundsEachOperation(t *testing.T) {
	coins := rand.New(rand.NewSource(11))
	for range 500 {
		start, rate := roughFloats(coins, 1)[0], coins.Float64()
		doses := roughFloats(coins, 1+coins.Intn(30))
		want := fadeByBig(start, rate, doses)
		if got := impl.Fade(start, rate, doses); !sameFloats(got, want) {
			t.Fatal(start, rate, doses, got, want)
		}
	}
}

func TestFadeLimits(t *testing.T) {
	got := impl.Fade(3, 0, make([]float64, impl.MaxList))
	if len(got) != 4096 || got[0] != 3 || got[4095] != 3 {
		t.Error("MaxList doses:", len(got))
	}
	if got := impl.Fade(3, 0, make([]float64, impl.MaxList+1)); len(got) != 0 {
		t.Error("one above MaxList:", len(got))
	}
}

func TestMeanOf(t *testing.T) {
	for _, c := range []struct {
		list []float64
		want float64
	}{
		{[]float64{1, notMeasured, 4}, 2.5},
		{[]float64{notMeasured, 7, notMeasured}, 7},
		{[]float64{7}, 7},
		{[]float64{-1, -2}, -1.5},
		{[]float64{1, 1, 2}, 4.0 / 3},
		{[]float64{0, notMeasured}, 0},
		{nil, notMeasured},
		{[]float64{}, notMeasured},
		{[]float64{notMeasured}, notMeasured},
		{[]float64{notMeasured, notMeasured}, notMeasured},
		// The sum begins with 0, so noughts with a minus lose it.
		{[]float64{minusNought}, 0},
		{[]float64{minusNought, notMeasured, minusNought}, 0},
		{[]float64{1, -1}, 0},
		{[]float64{-5e-324, 0, 0}, minusNought},
		// In order, and divided at the end alone.
		{[]float64{1e16, 1, 1, -1e16}, 0},
		{[]float64{1e16, -1e16, 1, 1}, 0.5},
		{[]float64{math.MaxFloat64, math.MaxFloat64}, endless},
		{[]float64{endless, 1}, endless},
		{[]float64{math.Inf(-1), notMeasured}, math.Inf(-1)},
		{[]float64{endless, math.Inf(-1)}, notMeasured},
	} {
		if got := impl.MeanOf(c.list); !sameFloat(got, c.want) {
			t.Error(c, got)
		}
	}
}

func TestMeanOfAllMeasuredIsTheSumByTheNumber(t *testing.T) {
	coins := rand.New(rand.NewSource(12))
	for range 500 {
		list := roughFloats(coins, 1+coins.Intn(50))
		want := meanByBig(list)
		if got := impl.MeanOf(list); !sameFloat(got, want) {
			t.Fatal(list, got, want)
		}
		var gaps []float64
		for _, x := range list {
			gaps = append(gaps, notMeasured, x)
		}
		if got := impl.MeanOf(append(gaps, notMeasured)); !sameFloat(got, want) {
			t.Fatal("with gaps", list, got, want)
		}
	}
}

func TestMeanOfLimits(t *testing.T) {
	full := make([]float64, impl.MaxList)
	for i := range full {
		full[i] = 2
	}
	if got := impl.MeanOf(full); got != 2 {
		t.Error("MaxList numbers:", got)
	}
	if got := impl.MeanOf(append(full, 2)); !math.IsNaN(got) {
		t.Error("one above MaxList:", got)
	}
	if got := impl.MeanOf(append(full, notMeasured)); !math.IsNaN(got) {
		t.Error("one above MaxList, not measured:", got)
	}
}

// What is handed in stays, with the spare room behind it, and what is answered shares no memory with it.
func TestFadeAndMeanLeaveTheirArguments(t *testing.T) {
	room := []float64{1, 2, 3, 44, 55}
	doses := room[:3]
	first := impl.Fade(8, 0.5, doses)
	second := impl.Fade(8, 0.5, doses)
	impl.MeanOf(doses)
	for i := range first {
		first[i] = -9
	}
	first = append(first, -9)
	if !sameFloats(room, []float64{1, 2, 3, 44, 55}) || !sameFloats(second, []float64{5, 4.5, 5.25}) || len(first) != 4 {
		t.Error(room, first, second)
	}
}
