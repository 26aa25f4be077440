package tests

import (
	"fmt"
	"math"
	"math/rand"
	"slices"
	"testing"

	"loop.example/g00060/impl"
)

func mustOf(field, low, high int64) impl.Criterion {
	return impl.Criterion{Field: field, Low: low, High: high, Must: true}
}

func mustNotOf(field, low, high int64) impl.Criterion {
	return impl.Criterion{Field: field, Low: low, High: high}
}

// failsCriterion names one by one what the chapter says does not hold.
func failsCriterion(value int64, known bool, c impl.Criterion) bool {
	switch {
	case c.Must && !known, c.Must && value < c.Low, c.Must && value > c.High:
		return true
	case !c.Must && known:
		return within(value, c.Low, c.High)
	}
	return false
}

// wantedEligible goes from the last criterion to the first, so that the first one is told.
func wantedEligible(values []int64, known []bool, criteria []impl.Criterion) int64 {
	if len(values) != len(known) || len(values) > 20 || len(criteria) > 200 {
		return -1
	}
	told := int64(0)
	for place, c := range slices.Backward(criteria) {
		switch {
		case told == -1 || !within(c.Field, 0, int64(len(values))-1):
			told = -1
		case failsCriterion(values[c.Field], known[c.Field], c):
			told = int64(place) + 1
		}
	}
	return told
}

func checkEligible(t *testing.T, what string, values []int64, known []bool, criteria []impl.Criterion, want int64) {
	t.Helper()
	if got := impl.Eligible(values, known, criteria); got != want {
		t.Errorf("%s: Eligible(%v, %v, %.300s) = %d, want %d", what, values, known, fmt.Sprint(criteria), got, want)
	}
	if told := wantedEligible(values, known, criteria); told != want {
		t.Errorf("%s: the test itself tells %d, want %d", what, told, want)
	}
}

// checkOneCriterion asks of one value, alone and among others that hold.
func checkOneCriterion(t *testing.T, what string, value int64, known bool, c impl.Criterion, holds bool) {
	t.Helper()
	alone, between := int64(0), int64(0)
	if !holds {
		alone, between = 1, 3
	}
	c.Field = 0
	checkEligible(t, what, []int64{value}, []bool{known}, []impl.Criterion{c}, alone)
	c.Field = 2
	right := []impl.Criterion{mustOf(0, 5, 5), mustNotOf(1, 5, 5), c, mustOf(0, 0, 9)}
	checkEligible(t, what+", among others", []int64{5, 6, value, 7}, []bool{true, true, known, true}, right, between)
}

// allKnown is so many values that are known.
func allKnown(count int) []bool { return slices.Repeat([]bool{true}, count) }

func TestEligible(t *testing.T) {
	given := []impl.Criterion{mustOf(0, 1, 5), mustOf(1, 0, 9)}
	checkEligible(t, "the given one", []int64{5, 9}, []bool{true, false}, given, 2)
	checkEligible(t, "both known", []int64{5, 9}, []bool{true, true}, given, 0)
	checkEligible(t, "neither known", []int64{5, 9}, []bool{false, false}, given, 1)
	checkEligible(t, "the first not known", []int64{5, 9}, []bool{false, true}, given, 1)
	checkEligible(t, "two of one field", []int64{5}, []bool{true}, []impl.Criterion{mustOf(0, 1, 5), mustNotOf(0, 5, 9)}, 2)
	checkEligible(t, "two of one field that both hold", []int64{4}, []bool{true}, []impl.Criterion{mustOf(0, 1, 5), mustNotOf(0, 5, 9)}, 0)
	checkEligible(t, "a Must and its contrary", []int64{4}, []bool{true}, []impl.Criterion{mustOf(0, 1, 5), mustNotOf(0, 1, 5)}, 2)
	checkEligible(t, "a Must and its contrary, not known", []int64{4}, []bool{false}, []impl.Criterion{mustNotOf(0, 1, 5), mustOf(0, 1, 5)}, 2)
}

func TestEligibleByNoCriterion(t *testing.T) {
	checkEligible(t, "nothing", nil, nil, nil, 0)
	checkEligible(t, "empty lists", []int64{}, []bool{}, []impl.Criterion{}, 0)
	checkEligible(t, "a value", []int64{5}, []bool{true}, nil, 0)
	checkEligible(t, "a value that is not known", []int64{5}, []bool{false}, nil, 0)
	checkEligible(t, "20 values", make([]int64, 20), make([]bool, 20), nil, 0)
}

// Not known, known and below Low, at Low, between, at High, above High.
func TestCriteriaThatMustHold(t *testing.T) {
	c := mustOf(0, 10, 12)
	for value := int64(0); value < 20; value++ {
		checkOneCriterion(t, "not known", value, false, c, false)
		checkOneCriterion(t, "known", value, true, c, value == 10 || value == 11 || value == 12)
	}
}

func TestCriteriaThatMustNotHold(t *testing.T) {
	c := mustNotOf(0, 10, 12)
	for value := int64(0); value < 20; value++ {
		checkOneCriterion(t, "not known", value, false, c, true)
		checkOneCriterion(t, "known", value, true, c, value < 10 || value > 12)
	}
}

func TestCriteriaOfOneNumber(t *testing.T) {
	for _, n := range []int64{math.MinInt64, -1, 0, 1, math.MaxInt64} {
		for _, value := range []int64{math.MinInt64, math.MinInt64 + 1, -1, 0, 1, math.MaxInt64 - 1, math.MaxInt64} {
			checkOneCriterion(t, "a Must", value, true, mustOf(0, n, n), value == n)
			checkOneCriterion(t, "no Must", value, true, mustNotOf(0, n, n), value != n)
		}
	}
}

func TestCriteriaWithLowAboveHigh(t *testing.T) {
	for _, ends := range [][2]int64{{12, 10}, {11, 10}, {math.MaxInt64, math.MinInt64}, {0, -1}, {1, 0}} {
		for _, value := range []int64{math.MinInt64, -1, 0, 1, 9, 10, 11, 12, 13, math.MaxInt64} {
			for _, known := range []bool{true, false} {
				checkOneCriterion(t, "a Must", value, known, mustOf(0, ends[0], ends[1]), false)
				checkOneCriterion(t, "no Must", value, known, mustNotOf(0, ends[0], ends[1]), true)
			}
		}
	}
}

func TestCriteriaOfAllNumbers(t *testing.T) {
	for _, value := range []int64{math.MinInt64, -1, 0, 1, math.MaxInt64} {
		checkOneCriterion(t, "a Must", value, true, mustOf(0, math.MinInt64, math.MaxInt64), true)
		checkOneCriterion(t, "a Must, not known", value, false, mustOf(0, math.MinInt64, math.MaxInt64), false)
		checkOneCriterion(t, "no Must", value, true, mustNotOf(0, math.MinInt64, math.MaxInt64), false)
		checkOneCriterion(t, "no Must, not known", value, false, mustNotOf(0, math.MinInt64, math.MaxInt64), true)
	}
}

func TestValuesAndKnownOfUnlikeLengths(t *testing.T) {
	for values := range 23 {
		for known := range 23 {
			want := int64(0)
			if values != known || values > 20 {
				want = -1
			}
			checkEligible(t, "no criterion", make([]int64, values), make([]bool, known), nil, want)
			if values > 0 && known > 0 {
				checkEligible(t, "one that holds", make([]int64, values), allKnown(known), []impl.Criterion{mustOf(0, 0, 0)}, want)
			}
		}
	}
}

func TestHowManyValues(t *testing.T) {
	criteria := []impl.Criterion{mustOf(0, 5, 5)}
	for count, want := range map[int]int64{1: 1, 19: 1, 20: 1, 21: -1, 22: -1, 5000: -1} {
		checkEligible(t, "one that does not hold", make([]int64, count), allKnown(count), criteria, want)
		checkEligible(t, "no criterion", make([]int64, count), allKnown(count), nil, min(want, 0))
	}
}

func TestHowManyCriteria(t *testing.T) {
	for count, want := range map[int]int64{1: 0, 199: 0, 200: 0, 201: -1, 202: -1, 5000: -1} {
		criteria := slices.Repeat([]impl.Criterion{mustOf(1, 5, 5)}, count)
		checkEligible(t, "all hold", []int64{0, 5}, allKnown(2), criteria, want)
		criteria[count-1].Must = false
		if want == 0 {
			want = int64(count)
		}
		checkEligible(t, "the last does not hold", []int64{0, 5}, allKnown(2), criteria, want)
		checkEligible(t, "none holds", []int64{0, 6}, allKnown(2), slices.Repeat([]impl.Criterion{mustOf(1, 5, 5)}, count), min(want, 1))
	}
}

func TestFieldsOfCriteria(t *testing.T) {
	for count := range 21 {
		values, known := make([]int64, count), allKnown(count)
		for _, field := range []int64{math.MinInt64, -2, -1, 0, 1, int64(count) - 1, int64(count), int64(count) + 1, 19, 20, math.MaxInt64} {
			want, wantBehind, wantAhead := int64(0), int64(1), int64(2)
			if !within(field, 0, int64(count)-1) {
				want, wantBehind, wantAhead = -1, -1, -1
			}
			checkEligible(t, "a Must", values, known, []impl.Criterion{mustOf(field, 0, 0)}, want)
			checkEligible(t, "no Must", values, known, []impl.Criterion{mustNotOf(field, 1, 1)}, want)
			if count > 0 {
				// A field that is none is told whatever else does not hold, and wherever it stands.
				fails := mustOf(0, 5, 5)
				checkEligible(t, "behind one that does not hold", values, known, []impl.Criterion{fails, mustOf(field, 0, 0)}, wantBehind)
				checkEligible(t, "ahead of one that does not hold", values, known, []impl.Criterion{mustOf(field, 0, 0), fails}, wantAhead)
			}
		}
	}
}

func TestEachFieldIsAskedForItsOwnValue(t *testing.T) {
	values := numbersTo(20)
	for field := range int64(20) {
		for n := range int64(20) {
			want := int64(1)
			if n == field {
				want = 0
			}
			checkEligible(t, "a Must", values, allKnown(20), []impl.Criterion{mustOf(field, n, n)}, want)
			checkEligible(t, "no Must", values, allKnown(20), []impl.Criterion{mustNotOf(field, n, n)}, 1-want)
			known := allKnown(20)
			known[n] = false
			checkEligible(t, "a Must, one not known", values, known, []impl.Criterion{mustOf(field, 0, 19)}, 1-want)
		}
	}
}

// Of several that do not hold the first is told.
func TestTheFirstCriterionThatDoesNotHold(t *testing.T) {
	for chosen := range 1 << 8 {
		criteria, want := []impl.Criterion{}, int64(0)
		for place := range 8 {
			c := mustOf(int64(place%3), 0, 9)
			if place%2 == 1 {
				c = mustNotOf(int64(place%3), 10, 19)
			}
			if chosen>>place&1 == 1 {
				c.Must = !c.Must
				c.Low, c.High = 5, 5
				if c.Must {
					c.Low = 6
				}
				if want == 0 {
					want = int64(place) + 1
				}
			}
			criteria = append(criteria, c)
		}
		checkEligible(t, "chosen ones", []int64{5, 5, 5}, allKnown(3), criteria, want)
	}
}

func randomCriterion(coins *rand.Rand, fields int64) impl.Criterion {
	low := coins.Int63n(8) - 1
	return impl.Criterion{Field: coins.Int63n(fields), Low: low, High: low - 1 + coins.Int63n(8), Must: coins.Intn(2) == 0}
}

func TestEligibleOfMany(t *testing.T) {
	coins := rand.New(rand.NewSource(174))
	told := map[int64]int{}
	for range 60000 {
		count := 1 + coins.Intn(20)
		values, known, criteria := []int64{}, []bool{}, []impl.Criterion{}
		for range count {
			values, known = append(values, coins.Int63n(8)), append(known, coins.Intn(4) > 0)
		}
		for range coins.Intn(6) {
			criteria = append(criteria, randomCriterion(coins, int64(count)))
		}
		if len(criteria) > 0 && coins.Intn(20) == 0 {
			criteria[coins.Intn(len(criteria))].Field = []int64{-1, int64(count)}[coins.Intn(2)]
		}
		got, want := impl.Eligible(values, known, criteria), wantedEligible(values, known, criteria)
		if got != want {
			t.Fatalf("Eligible(%v, %v, %+v) = %d, want %d", values, known, criteria, got, want)
		}
		told[got]++
	}
	for code := int64(-1); code <= 5; code++ {
		if told[code] < 50 {
			t.Error(code, told)
		}
	}
}

// All criteria ahead of the one told hold, alone and together; it does not hold alone.
func TestWhatHoldsAheadOfTheOneTold(t *testing.T) {
	coins := rand.New(rand.NewSource(175))
	for range 5000 {
		values, known, criteria := numbersTo(6), allKnown(6), []impl.Criterion{}
		known[coins.Intn(6)] = false
		for range 1 + coins.Intn(10) {
			criteria = append(criteria, randomCriterion(coins, 6))
		}
		told := impl.Eligible(values, known, criteria)
		if told == 0 {
			continue
		}
		checkEligible(t, "those ahead", values, known, criteria[:told-1], 0)
		checkEligible(t, "it alone", values, known, criteria[told-1:told], 1)
		checkEligible(t, "up to it", values, known, criteria[:told], told)
	}
}

func TestValuesAndCriteriaStay(t *testing.T) {
	values, known := []int64{5, 9, 77, 78}, []bool{true, false, true, true}
	criteria := []impl.Criterion{mustOf(0, 1, 5), mustOf(1, 0, 9), mustOf(-1, -2, -3)}
	valuesBefore, knownBefore, criteriaBefore := slices.Clone(values), slices.Clone(known), slices.Clone(criteria)
	for count := range 4 {
		impl.Eligible(values[:2], known[:2], criteria[:count])
		impl.Eligible(values[:2], known[:3], criteria[:count])
	}
	if !slices.Equal(values, valuesBefore) || !slices.Equal(known, knownBefore) || !slices.Equal(criteria, criteriaBefore) {
		t.Fatal(values, known, criteria)
	}
}
