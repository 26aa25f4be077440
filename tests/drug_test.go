package tests

import (
	"math"
	"math/big"
	"math/rand"
	"slices"
	"testing"

	"loop.example/g00060/impl"
)

// aDrug gives 100 a kilo, at most 5000, and 900 a day.
func aDrug() impl.Drug {
	return impl.Drug{Id: 3, Classes: []int64{2, 5}, PerKilo: 100, Most: 5000, DayMost: 900, Kidney: 50}
}

// drugAs is aDrug with something else in it.
func drugAs(change func(d *impl.Drug)) impl.Drug {
	d := aDrug()
	change(&d)
	return d
}

func drugIn(classes ...int64) impl.Drug {
	return drugAs(func(d *impl.Drug) { d.Classes = classes })
}

// isDrug has one line for each word of the document.
func isDrug(d impl.Drug) bool {
	for at, class := range d.Classes {
		if !within(class, 0, 63) || slices.Contains(d.Classes[:at], class) {
			return false
		}
	}
	classes := len(d.Classes) <= 10 && slices.IsSorted(d.Classes)
	micrograms := within(d.PerKilo, 1, 1000000000) && within(d.Most, 1, 1000000000) && within(d.DayMost, 1, 1000000000)
	return within(d.Id, 1, 1000) && classes && micrograms && within(d.Kidney, 0, 100)
}

func quotient(x *big.Int, y int64) *big.Int { return new(big.Int).Div(x, big.NewInt(y)) }

func product(x *big.Int, y int64) *big.Int { return new(big.Int).Mul(x, big.NewInt(y)) }

// wantedDose is reckoned without a bound on how great a number may be.
func wantedDose(d impl.Drug, grams int64, kidney int64) (int64, bool) {
	if !isDrug(d) || !within(grams, 1, 500000) || !within(kidney, 0, 100) {
		return 0, false
	}
	dose := quotient(product(big.NewInt(d.PerKilo), grams), 1000)
	if dose.Cmp(big.NewInt(d.Most)) > 0 {
		dose = big.NewInt(d.Most)
	}
	part := d.Kidney*(100-kidney) + 100*kidney
	dose = quotient(product(dose, part), 10000)
	return dose.Int64(), dose.Sign() > 0
}

func checkDose(t *testing.T, d impl.Drug, grams int64, kidney int64) {
	t.Helper()
	want, wantOk := wantedDose(d, grams, kidney)
	if got, ok := impl.DoseFor(d, grams, kidney); got != want || ok != wantOk {
		t.Fatalf("DoseFor(%+v, %d, %d) = %d, %v, want %d, %v", d, grams, kidney, got, ok, want, wantOk)
	}
}

// checkDrugOk asks DrugOk, and each function for what it answers of a drug that is none.
func checkDrugOk(t *testing.T, d impl.Drug, want bool) {
	t.Helper()
	if got := impl.DrugOk(d); got != want || isDrug(d) != want {
		t.Errorf("DrugOk(%+v) = %v, want %v", d, got, want)
	}
	if want {
		return
	}
	if dose, ok := impl.DoseFor(d, 70000, 100); dose != 0 || ok {
		t.Errorf("%+v: the dose %d, %v", d, dose, ok)
	}
	if impl.Allergic(d, peopleTo(0, 64)) || impl.Allergic(d, d.Classes) {
		t.Errorf("%+v: allergic", d)
	}
	for _, amount := range []int64{1, 1000000000} {
		if ok, sum := impl.MayGive(d, nil, 100, amount); ok || sum != 0 {
			t.Errorf("%+v: MayGive says %v, %d", d, ok, sum)
		}
	}
	all := impl.Rule{A: 2, B: 2, Grade: 3}
	for _, drugs := range [][]impl.Drug{{d, aDrug(), aDrug()}, {aDrug(), d, aDrug()}, {aDrug(), aDrug(), d}, {d}} {
		if warnings := impl.Interactions(drugs, []impl.Rule{all}); len(warnings) != 0 {
			t.Errorf("%+v: warnings %v", d, warnings)
		}
	}
}

func TestDrugConstants(t *testing.T) {
	got := []int64{impl.MaxDrug, impl.MaxClasses, impl.MaxGrams, impl.MaxDrugs, impl.MaxRules, impl.MaxGiven, impl.MaxTaper}
	if !slices.Equal(got, []int64{1000, 10, 500000, 50, 200, 500, 100}) {
		t.Fatal(got)
	}
}

func TestDrugOkOfNumbers(t *testing.T) {
	checkDrugOk(t, aDrug(), true)
	checkDrugOk(t, impl.Drug{}, false)
	for _, id := range []int64{math.MinInt64, -3, -1, 0, 1, 2, 999, 1000, 1001, math.MaxInt64} {
		checkDrugOk(t, drugAs(func(d *impl.Drug) { d.Id = id }), id >= 1 && id <= 1000)
	}
	for _, amount := range []int64{math.MinInt64, -100, -1, 0, 1, 2, 999999999, 1000000000, 1000000001, math.MaxInt64} {
		right := amount >= 1 && amount <= 1000000000
		checkDrugOk(t, drugAs(func(d *impl.Drug) { d.PerKilo = amount }), right)
		checkDrugOk(t, drugAs(func(d *impl.Drug) { d.Most = amount }), right)
		checkDrugOk(t, drugAs(func(d *impl.Drug) { d.DayMost = amount }), right)
	}
	for _, kidney := range []int64{math.MinInt64, -50, -1, 0, 1, 99, 100, 101, math.MaxInt64} {
		checkDrugOk(t, drugAs(func(d *impl.Drug) { d.Kidney = kidney }), kidney >= 0 && kidney <= 100)
	}
	checkDrugOk(t, impl.Drug{Id: 1, PerKilo: 1, Most: 1, DayMost: 1}, true)
	checkDrugOk(t, impl.Drug{Id: 1000, Classes: peopleTo(54, 10), PerKilo: 1000000000, Most: 1000000000, DayMost: 1000000000, Kidney: 100}, true)
	checkDrugOk(t, impl.Drug{Id: 1, PerKilo: 9, Most: 1, DayMost: 1}, true)
	checkDrugOk(t, impl.Drug{Id: 1, PerKilo: 1, Most: 9, DayMost: 1}, true)
}

func TestDrugOkOfClasses(t *testing.T) {
	for _, classes := range [][]int64{
		nil, {}, {0}, {1}, {62}, {63}, {0, 63}, {31, 32}, {2, 5}, {4, 5}, {0, 1, 2}, {61, 62, 63},
		peopleTo(0, 9), peopleTo(0, 10), peopleTo(54, 10), {0, 7, 14, 21, 28, 35, 42, 49, 56, 63},
	} {
		checkDrugOk(t, drugIn(classes...), true)
	}
	for _, classes := range [][]int64{
		{-1}, {64}, {-1, 0}, {63, 64}, {math.MinInt64}, {math.MaxInt64}, {-64}, {65}, {128}, {math.MinInt64, 5}, {5, math.MaxInt64},
		{0, 0}, {5, 5}, {63, 63}, {2, 5, 5}, {2, 2, 5}, {5, 2}, {63, 0}, {1, 0}, {2, 5, 4}, {5, 2, 7}, {2, 5, 2},
		peopleTo(0, 11), peopleTo(53, 11), peopleTo(0, 64), {-1, 64}, {2, -1, 5}, {2, 64, 65}, make([]int64, 10), make([]int64, 11),
		{0, 1, 2, 3, 4, 5, 6, 7, 8, 64}, {0, 1, 2, 3, 4, 5, 6, 7, 8, 8}, {1, 0, 2, 3, 4, 5, 6, 7, 8, 9},
	} {
		checkDrugOk(t, drugIn(classes...), false)
	}
	for class := int64(-70); class <= 200; class++ {
		checkDrugOk(t, drugIn(class), class >= 0 && class <= 63)
		checkDrugOk(t, drugIn(class, 40), class >= 0 && class < 40)
		checkDrugOk(t, drugIn(40, class), class > 40 && class <= 63)
	}
}

func TestDose(t *testing.T) {
	type row struct {
		perKilo, most, part int64
		grams, kidney       int64
		dose                int64
	}
	for _, r := range []row{
		{100, 5000, 50, 20000, 100, 2000},
		{100, 5000, 50, 20000, 0, 1000},
		{100, 5000, 50, 20000, 50, 1500},
		{100, 5000, 50, 80000, 100, 5000},
		{100, 5000, 50, 80000, 0, 2500},
		{100, 5000, 50, 50000, 100, 5000},
		{100, 5000, 50, 49999, 100, 4999},
		{100, 5000, 50, 50010, 100, 5000},
		{100, 5000, 0, 20000, 1, 20},
		{100, 5000, 0, 20000, 99, 1980},
		{100, 5000, 100, 20000, 0, 2000},
		{100, 5000, 1, 20000, 0, 20},
		{100, 5000, 99, 20000, 1, 1980},
		{7, 1000, 100, 1999, 100, 13},
		{7, 1000, 50, 1999, 0, 6},
		{7, 1000, 33, 1999, 50, 8},
		{1, 1, 100, 1000, 100, 1},
		{1, 1, 100, 1999, 100, 1},
		{1, 1000, 100, 2000, 100, 2},
		{1000, 1000, 100, 1, 100, 1},
		{999, 1000, 100, 2, 100, 1},
		{1000000000, 1000000000, 100, 500000, 100, 1000000000},
		{1000000000, 1000000000, 99, 500000, 0, 990000000},
		{1000000000, 1000000000, 99, 500000, 99, 999900000},
		{1000000000, 1, 100, 500000, 100, 1},
		{1, 1000000000, 100, 500000, 100, 500},
		{1000000000, 1000000000, 100, 1, 100, 1000000},
		{1000000000, 1000000000, 0, 1, 1, 10000},
		{3, 3, 67, 1000, 0, 2},
		{3, 2, 50, 1000, 0, 1},
		{20, 5, 50, 1000, 0, 2},
	} {
		d := drugAs(func(d *impl.Drug) { d.PerKilo, d.Most, d.Kidney = r.perKilo, r.most, r.part })
		if got, ok := impl.DoseFor(d, r.grams, r.kidney); got != r.dose || !ok {
			t.Errorf("%+v: %d, %v", r, got, ok)
		}
		checkDose(t, d, r.grams, r.kidney)
	}
}

func TestDoseThatWouldBeNothing(t *testing.T) {
	for _, r := range [][5]int64{
		{1, 1000, 100, 999, 100}, {999, 1000, 100, 1, 100}, {1, 1, 99, 1000, 0}, {1, 1, 99, 1000, 99}, {100, 5000, 0, 20000, 0},
		{1000000000, 1000000000, 0, 500000, 0}, {1000000000, 1, 50, 500000, 50}, {1, 1000000000, 100, 1, 100}, {3, 9, 33, 1000, 0},
	} {
		d := drugAs(func(d *impl.Drug) { d.PerKilo, d.Most, d.Kidney = r[0], r[1], r[2] })
		if got, ok := impl.DoseFor(d, r[3], r[4]); got != 0 || ok {
			t.Errorf("%v: %d, %v", r, got, ok)
		}
		checkDose(t, d, r[3], r[4])
	}
}

func TestDoseOutOfRange(t *testing.T) {
	d := drugAs(func(d *impl.Drug) { d.PerKilo, d.Most = 1000000000, 1000000000 })
	for _, grams := range []int64{math.MinInt64, -500000, -1000, -1, 0, 1, 2, 499999, 500000, 500001, 1 << 40, math.MaxInt64} {
		for _, kidney := range []int64{math.MinInt64, -100, -1, 0, 1, 50, 99, 100, 101, 200, math.MaxInt64} {
			got, ok := impl.DoseFor(d, grams, kidney)
			right := grams >= 1 && grams <= 500000 && kidney >= 0 && kidney <= 100
			if ok != right || (got > 0) != right || got < 0 {
				t.Errorf("DoseFor(.., %d, %d) = %d, %v", grams, kidney, got, ok)
			}
			checkDose(t, d, grams, kidney)
		}
	}
}

func randomNumberTo(coins *rand.Rand, most int64) int64 {
	return 1 + coins.Int63n(min(most, []int64{3, 100, 20000, 1000000000}[coins.Intn(4)]))
}

func randomDrug(coins *rand.Rand) impl.Drug {
	classes := []int64{}
	for len(classes) < coins.Intn(11) {
		if class := coins.Int63n(64); !slices.Contains(classes, class) {
			classes = append(classes, class)
		}
	}
	slices.Sort(classes)
	return impl.Drug{
		Id: randomNumberTo(coins, 1000), Classes: classes, Kidney: coins.Int63n(101),
		PerKilo: randomNumberTo(coins, 1000000000), Most: randomNumberTo(coins, 1000000000), DayMost: randomNumberTo(coins, 1000000000),
	}
}

// Promise 11: a dose is never above Most.
func TestDoseIsNeverAboveMost(t *testing.T) {
	coins := rand.New(rand.NewSource(86))
	atMost := 0
	for range 30000 {
		d := randomDrug(coins)
		grams, kidney := randomNumberTo(coins, 500000), coins.Int63n(101)
		if coins.Intn(4) == 0 {
			kidney = 100
		}
		checkDose(t, d, grams, kidney)
		dose, ok := impl.DoseFor(d, grams, kidney)
		if dose > d.Most || dose < 0 || ok != (dose > 0) {
			t.Fatalf("%+v, %d grams, kidney %d: %d, %v", d, grams, kidney, dose, ok)
		}
		if dose == d.Most {
			atMost++
		}
		if better, _ := impl.DoseFor(d, grams, min(100, kidney+1)); better < dose {
			t.Fatalf("%+v, %d grams, kidney %d: %d, and %d when they work better", d, grams, kidney, dose, better)
		}
	}
	if atMost == 0 {
		t.Fatal("no dose was as great as Most")
	}
}

func TestDoseOfAllKidneys(t *testing.T) {
	for part := int64(0); part <= 100; part++ {
		for kidney := int64(0); kidney <= 100; kidney++ {
			d := drugAs(func(d *impl.Drug) { d.Kidney, d.Most = part, 777 })
			checkDose(t, d, 7770, kidney)
			checkDose(t, d, 7769, kidney)
			checkDose(t, d, 100, kidney)
		}
	}
}

func wantedTaper(first int64, last int64, steps int64) []int64 {
	if steps < 2 || steps > 100 || last < 1 || last > first || first > 1000000000 {
		return nil
	}
	var doses []int64
	for at := int64(0); at < steps; at++ {
		off := quotient(product(big.NewInt(first-last), at), steps-1)
		doses = append(doses, first-off.Int64())
	}
	return doses
}

func checkTaper(t *testing.T, first int64, last int64, steps int64) {
	t.Helper()
	if got, want := impl.Taper(first, last, steps), wantedTaper(first, last, steps); !slices.Equal(got, want) {
		t.Fatalf("Taper(%d, %d, %d) = %v, want %v", first, last, steps, got, want)
	}
}

func TestTaper(t *testing.T) {
	for _, r := range []struct {
		first, last, steps int64
		doses              []int64
	}{
		{100, 10, 4, []int64{100, 70, 40, 10}},
		{100, 10, 2, []int64{100, 10}},
		{100, 10, 3, []int64{100, 55, 10}},
		{10, 1, 5, []int64{10, 8, 6, 4, 1}},
		{10, 8, 5, []int64{10, 10, 9, 9, 8}},
		{2, 1, 2, []int64{2, 1}},
		{2, 1, 5, []int64{2, 2, 2, 2, 1}},
		{7, 7, 3, []int64{7, 7, 7}},
		{1, 1, 2, []int64{1, 1}},
		{1000000000, 1, 2, []int64{1000000000, 1}},
		{1000000000, 1, 4, []int64{1000000000, 666666667, 333333334, 1}},
		{1000000000, 1000000000, 2, []int64{1000000000, 1000000000}},
		{1000000000, 999999999, 3, []int64{1000000000, 1000000000, 999999999}},
	} {
		if got := impl.Taper(r.first, r.last, r.steps); !slices.Equal(got, r.doses) {
			t.Errorf("Taper(%d, %d, %d) = %v, want %v", r.first, r.last, r.steps, got, r.doses)
		}
		checkTaper(t, r.first, r.last, r.steps)
	}
}

func TestTaperAtTheEnds(t *testing.T) {
	ends := []int64{math.MinInt64, -1000000000, -1, 0, 1, 2, 3, 50, 99, 100, 101, 999999999, 1000000000, 1000000001, math.MaxInt64}
	for _, first := range ends {
		for _, last := range ends {
			for _, steps := range ends {
				checkTaper(t, first, last, steps)
			}
		}
	}
	for _, wrong := range [][3]int64{
		{100, 10, 1}, {100, 10, 0}, {100, 10, -1}, {100, 10, 101}, {100, 0, 4}, {100, -1, 4}, {9, 10, 4}, {10, 100, 4},
		{1000000001, 10, 4}, {1000000001, 1000000001, 4}, {0, 0, 4}, {0, 1, 4}, {math.MaxInt64, 1, 2}, {1, math.MinInt64, 2}, {1, 1, math.MaxInt64},
	} {
		if got := impl.Taper(wrong[0], wrong[1], wrong[2]); len(got) != 0 {
			t.Errorf("Taper%v = %v", wrong, got)
		}
	}
	if got := impl.Taper(1000000000, 1, 100); len(got) != 100 || got[0] != 1000000000 || got[99] != 1 {
		t.Error(got)
	}
}

func TestTaperGoesDown(t *testing.T) {
	coins := rand.New(rand.NewSource(87))
	for range 5000 {
		first := randomNumberTo(coins, 1000000000)
		last := 1 + coins.Int63n(first)
		steps := 2 + coins.Int63n(99)
		checkTaper(t, first, last, steps)
		doses := impl.Taper(first, last, steps)
		if int64(len(doses)) != steps || doses[0] != first || doses[steps-1] != last {
			t.Fatalf("Taper(%d, %d, %d) = %v", first, last, steps, doses)
		}
		for at := range doses[1:] {
			if doses[at+1] > doses[at] {
				t.Fatalf("Taper(%d, %d, %d) = %v", first, last, steps, doses)
			}
		}
	}
}

func TestTaperIsAnew(t *testing.T) {
	doses := impl.Taper(100, 10, 4)
	doses[0], doses[3] = 0, 0
	if again := impl.Taper(100, 10, 4); !slices.Equal(again, []int64{100, 70, 40, 10}) {
		t.Fatal(again)
	}
}
