package tests

import (
	"math"
	"math/rand"
	"slices"
	"testing"

	"loop.example/g00060/impl"
)

// givenOf reads what was given of drug 3, a time and an amount each.
func givenOf(numbers ...int64) []impl.Given {
	var given []impl.Given
	for at := 0; at+1 < len(numbers); at += 2 {
		given = append(given, impl.Given{Drug: 3, Time: numbers[at], Amount: numbers[at+1]})
	}
	return given
}

func drugOfDay(most int64) impl.Drug {
	return drugAs(func(d *impl.Drug) { d.DayMost = most })
}

func isGiven(g impl.Given) bool {
	return within(g.Drug, 1, 1000) && within(g.Time, 0, 10000000) && within(g.Amount, 1, 1000000000)
}

// wantedMay goes through the ends as the document names them.
func wantedMay(d impl.Drug, given []impl.Given, time int64, amount int64) (bool, int64) {
	wrong := func(g impl.Given) bool { return !isGiven(g) }
	if !isDrug(d) || len(given) > 500 || slices.ContainsFunc(given, wrong) || !within(time, 0, 10000000) || !within(amount, 1, 1000000000) {
		return false, 0
	}
	ends := []int64{time}
	for _, g := range given {
		if g.Drug == d.Id && within(g.Time, time, time+1439) {
			ends = append(ends, g.Time)
		}
	}
	var sums []int64
	for _, end := range ends {
		sum := amount
		for _, g := range given {
			if g.Drug == d.Id && within(g.Time, end-1439, end) {
				sum += g.Amount
			}
		}
		sums = append(sums, sum)
	}
	if slices.Max(sums) > d.DayMost {
		return false, slices.Max(sums)
	}
	return true, 0
}

func checkMay(t *testing.T, d impl.Drug, given []impl.Given, time int64, amount int64) {
	t.Helper()
	want, wantSum := wantedMay(d, given, time, amount)
	if got, sum := impl.MayGive(d, given, time, amount); got != want || sum != wantSum {
		t.Fatalf("MayGive(%+v, %v, %d, %d) = %v, %d, want %v, %d", d, given, time, amount, got, sum, want, wantSum)
	}
}

// checkSum asks for the greatest sum: it is within a day of just that, and not within a day of one less.
func checkSum(t *testing.T, what string, given []impl.Given, time int64, amount int64, sum int64) {
	t.Helper()
	if got, told := impl.MayGive(drugOfDay(sum), given, time, amount); !got || told != 0 {
		t.Errorf("%s, a day of %d: %v, %d", what, sum, got, told)
	}
	if sum == 1 {
		return
	}
	if got, told := impl.MayGive(drugOfDay(sum-1), given, time, amount); got || told != sum {
		t.Errorf("%s, a day of %d: %v, %d", what, sum-1, got, told)
	}
}

func checkMayNot(t *testing.T, what string, given []impl.Given, time int64, amount int64) {
	t.Helper()
	for _, most := range []int64{1, 1000000000} {
		if got, told := impl.MayGive(drugOfDay(most), given, time, amount); got || told != 0 {
			t.Errorf("%s, a day of %d: %v, %d", what, most, got, told)
		}
		checkMay(t, drugOfDay(most), given, time, amount)
	}
}

func TestMayGive(t *testing.T) {
	for _, r := range []struct {
		what         string
		given        []impl.Given
		time, amount int64
		sum          int64
	}{
		{"nothing given", nil, 5000, 7, 7},
		{"nothing given, the least", nil, 0, 1, 1},
		{"nothing given, at the last time", nil, 10000000, 7, 7},
		{"a day and one minute ago", givenOf(3559, 100), 5000, 7, 7},
		{"a day ago", givenOf(3560, 100), 5000, 7, 7},
		{"a minute less than a day ago", givenOf(3561, 100), 5000, 7, 107},
		{"a minute ago", givenOf(4999, 100), 5000, 7, 107},
		{"at the time", givenOf(5000, 100), 5000, 7, 107},
		{"in a minute", givenOf(5001, 100), 5000, 7, 107},
		{"in a minute less than a day", givenOf(6439, 100), 5000, 7, 107},
		{"in a day", givenOf(6440, 100), 5000, 7, 7},
		{"twice at the time", givenOf(5000, 100, 5000, 30), 5000, 7, 137},
		{"ahead and behind, in one day", givenOf(4300, 100, 5700, 30), 5000, 7, 137},
		{"ahead and behind, a day less a minute between", givenOf(4300, 100, 5739, 30), 5000, 7, 137},
		{"ahead and behind, a day between", givenOf(4300, 100, 5740, 30), 5000, 7, 107},
		{"ahead and behind, a day between, the later more", givenOf(4300, 30, 5740, 100), 5000, 7, 107},
		{"the greatest sum in the middle", givenOf(4000, 1, 4500, 10, 5500, 100, 5900, 1000, 6400, 20), 5000, 7, 1127},
		{"the greatest sum at the time", givenOf(3561, 1000, 4999, 10, 5001, 20), 5000, 7, 1017},
		{"the greatest sum at the last", givenOf(3600, 10, 6438, 100, 6439, 1000), 5000, 7, 1107},
		{"what is later, though not by its end", givenOf(5100, 10, 6439, 20, 6440, 1000), 5000, 7, 37},
		{"what is long past and far ahead", givenOf(0, 1000, 10000000, 1000, 3560, 1000, 6440, 1000), 5000, 7, 7},
		{"a full day elsewhere", givenOf(3560, 900, 3500, 900), 5000, 7, 7},
		{"in no order", givenOf(5900, 1000, 4500, 10, 6400, 20, 4000, 1, 5500, 100), 5000, 7, 1127},
		{"at the beginning", givenOf(0, 100, 1439, 20, 1440, 3000), 0, 7, 127},
		{"at the end", givenOf(10000000, 100, 9998561, 20, 9998560, 3000), 10000000, 7, 127},
		{"near the beginning", givenOf(0, 100, 1439, 20, 1440, 3), 1, 7, 127},
		{"near the end", givenOf(10000000, 100, 9998561, 20, 9998560, 3), 9999999, 7, 127},
	} {
		checkSum(t, r.what, r.given, r.time, r.amount, r.sum)
		for _, most := range []int64{1, r.sum - 1, r.sum, r.sum + 1, 1000000000} {
			checkMay(t, drugOfDay(most), r.given, r.time, r.amount)
		}
	}
}

func TestMayGiveAtEachDistance(t *testing.T) {
	for _, time := range []int64{0, 1, 5000, 9999999, 10000000} {
		for away := int64(-1445); away <= 1445; away++ {
			if !within(time+away, 0, 10000000) {
				continue
			}
			sum := int64(40)
			if away >= -1439 && away <= 1439 {
				sum = 100
			}
			checkSum(t, "one", givenOf(time+away, 60), time, 40, sum)
		}
	}
}

func TestMayGiveOfOtherDrugs(t *testing.T) {
	others := []impl.Given{{Drug: 2, Time: 5000, Amount: 1000}, {Drug: 4, Time: 5001, Amount: 1000}, {Drug: 1, Time: 4999, Amount: 1000}, {Drug: 1000, Time: 5000, Amount: 1000}}
	checkSum(t, "others alone", others, 5000, 7, 7)
	checkSum(t, "others, and this one", append(givenOf(4900, 10), others...), 5000, 7, 17)
	checkSum(t, "this one between", slices.Insert(slices.Clone(others), 2, givenOf(5100, 10)...), 5000, 7, 17)
	ends := append(givenOf(3700, 100), impl.Given{Drug: 4, Time: 5200, Amount: 1}, impl.Given{Drug: 3, Time: 6000, Amount: 10})
	checkSum(t, "the end of another is none", ends, 5000, 7, 107)
	for _, most := range []int64{1, 7, 16, 17, 106, 107, 1000000000} {
		checkMay(t, drugOfDay(most), others, 5000, 7)
		checkMay(t, drugOfDay(most), ends, 5000, 7)
	}
}

func TestMayGiveOfDayMost(t *testing.T) {
	for _, r := range []struct {
		most, amount int64
		given        []impl.Given
		ok           bool
		sum          int64
	}{
		{1, 1, nil, true, 0},
		{1, 2, nil, false, 2},
		{1, 1, givenOf(100, 1), false, 2},
		{2, 1, givenOf(100, 1), true, 0},
		{900, 400, givenOf(100, 500), true, 0},
		{900, 401, givenOf(100, 500), false, 901},
		{900, 400, givenOf(100, 501), false, 901},
		{1000000000, 1000000000, nil, true, 0},
		{999999999, 1000000000, nil, false, 1000000000},
		{1000000000, 1000000000, givenOf(100, 1), false, 1000000001},
		{1000000000, 1, givenOf(100, 1000000000), false, 1000000001},
		{1000000000, 1, givenOf(100, 999999999), true, 0},
	} {
		if got, sum := impl.MayGive(drugOfDay(r.most), r.given, 200, r.amount); got != r.ok || sum != r.sum {
			t.Errorf("%+v: %v, %d", r, got, sum)
		}
	}
	over := givenOf(100, 500, 200, 500, 9000, 1)
	if got, sum := impl.MayGive(drugOfDay(900), over, 9000, 800); !got || sum != 0 {
		t.Error("a day that is broken already, and is another one:", got, sum)
	}
	if got, sum := impl.MayGive(drugOfDay(900), over, 300, 1); got || sum != 1001 {
		t.Error("a day that is broken already:", got, sum)
	}
}

func TestMayGiveOfMany(t *testing.T) {
	given := slices.Repeat(givenOf(5000, 1000000000), 501)
	if got, sum := impl.MayGive(drugOfDay(1000000000), given[:500], 5000, 1000000000); got || sum != 501000000000 {
		t.Error(got, sum)
	}
	small := slices.Repeat(givenOf(5000, 1), 501)
	checkSum(t, "as many as there may be", small[:500], 5000, 1, 501)
	checkSum(t, "one less", small[:499], 5000, 1, 500)
	checkMayNot(t, "one too many", small, 5000, 1)
	checkMayNot(t, "one too many, great ones", given, 5000, 1)
	others := slices.Repeat([]impl.Given{{Drug: 7, Time: 1, Amount: 1}}, 501)
	checkSum(t, "as many of another", others[:500], 5000, 1, 1)
	checkMayNot(t, "one too many of another", others, 5000, 1)
}

func TestMayGiveOutOfRange(t *testing.T) {
	for _, time := range []int64{math.MinInt64, math.MinInt64 + 1439, -1440, -1439, -1, 10000001, 10001439, math.MaxInt64 - 1439, math.MaxInt64} {
		checkMayNot(t, "time", nil, time, 1)
		checkMayNot(t, "time, with something given", givenOf(0, 5, 10000000, 5), time, 1)
	}
	for _, amount := range []int64{math.MinInt64, -1000, -1, 0, 1000000001, math.MaxInt64} {
		checkMayNot(t, "amount", nil, 100, amount)
		checkMayNot(t, "amount, with something given", givenOf(100, 5), 100, amount)
	}
	checkMayNot(t, "both", nil, -1, 0)
	for _, time := range []int64{0, 1, 9999999, 10000000} {
		checkSum(t, "a time at its ends", nil, time, 5, 5)
	}
	checkSum(t, "the greatest amount", nil, 0, 1000000000, 1000000000)
	checkSum(t, "the least amount", nil, 0, 1, 1)
}

func TestMayGiveOfWhatIsNotAsTold(t *testing.T) {
	wrong := []impl.Given{{}}
	for _, id := range []int64{math.MinInt64, -3, 0, 1001, math.MaxInt64} {
		wrong = append(wrong, impl.Given{Drug: id, Time: 100, Amount: 5})
	}
	for _, time := range []int64{math.MinInt64, -1, 10000001, math.MaxInt64} {
		wrong = append(wrong, impl.Given{Drug: 3, Time: time, Amount: 5}, impl.Given{Drug: 8, Time: time, Amount: 5})
	}
	for _, amount := range []int64{math.MinInt64, -1, 0, 1000000001, math.MaxInt64} {
		wrong = append(wrong, impl.Given{Drug: 3, Time: 100, Amount: amount}, impl.Given{Drug: 8, Time: 100, Amount: amount})
	}
	for _, g := range wrong {
		checkMayNot(t, "alone", []impl.Given{g}, 100, 1)
		checkMayNot(t, "the first", append([]impl.Given{g}, givenOf(100, 5, 110, 6)...), 100, 1)
		checkMayNot(t, "the last", append(givenOf(100, 5, 110, 6), g), 100, 1)
		checkMayNot(t, "far away", append(givenOf(100, 5, 110, 6), g), 9000000, 1)
	}
	for _, g := range []impl.Given{
		{Drug: 1, Time: 0, Amount: 1}, {Drug: 1000, Time: 10000000, Amount: 1000000000}, {Drug: 3, Time: 0, Amount: 1}, {Drug: 3, Time: 10000000, Amount: 1000000000},
	} {
		checkSum(t, "at the ends", []impl.Given{g}, 50000, 5, 5)
	}
}

// randomGiven is mostly of drug 3, around the time 5000.
func randomGiven(coins *rand.Rand, count int) []impl.Given {
	given := make([]impl.Given, count)
	span := []int64{5, 800, 3000, 6000}[coins.Intn(4)]
	for at := range given {
		given[at] = impl.Given{Drug: 3, Time: 5000 - span/2 + coins.Int63n(span), Amount: 1 + coins.Int63n(100)}
		switch coins.Intn(8) {
		case 0:
			given[at].Drug = 4
		case 1:
			given[at].Time = 5000 + 1439*(coins.Int63n(3)-1) + coins.Int63n(3) - 1
		}
	}
	return given
}

func TestMayGiveAsTold(t *testing.T) {
	coins := rand.New(rand.NewSource(92))
	answers := [2]int{}
	for range 20000 {
		given := randomGiven(coins, coins.Intn(12))
		most := 1 + coins.Int63n(500)
		checkMay(t, drugOfDay(most), given, 5000, 1+coins.Int63n(100))
		ok, _ := impl.MayGive(drugOfDay(most), given, 5000, 10)
		if ok {
			answers[1]++
		} else {
			answers[0]++
		}
	}
	if answers[0] < 1000 || answers[1] < 1000 {
		t.Fatal(answers)
	}
	for range 50 {
		checkMay(t, drugOfDay(20000), randomGiven(coins, 500), 5000, 10)
	}
}

func TestMayGiveHangsOnNoOrder(t *testing.T) {
	coins := rand.New(rand.NewSource(93))
	for range 1000 {
		given := randomGiven(coins, coins.Intn(12))
		d := drugOfDay(1 + coins.Int63n(400))
		want, wantSum := impl.MayGive(d, given, 5000, 20)
		coins.Shuffle(len(given), func(a, b int) { given[a], given[b] = given[b], given[a] })
		if got, sum := impl.MayGive(d, given, 5000, 20); got != want || sum != wantSum {
			t.Fatalf("%v, %d, then %v, %d", want, wantSum, got, sum)
		}
	}
}

// worstDay is the most that any 1440 minutes in a row have of the drug, by going through them minute by minute.
func worstDay(drug int64, given []impl.Given, from int64, to int64) int64 {
	each := make([]int64, to-from+1)
	for _, g := range given {
		if g.Drug == drug {
			each[g.Time-from] += g.Amount
		}
	}
	var sum, worst int64
	for at := range each {
		sum += each[at]
		if at >= 1440 {
			sum -= each[at-1440]
		}
		worst = max(worst, sum)
	}
	return worst
}

// Promise 11: what MayGive allows breaks no day.
func TestMayGiveBreaksNoDay(t *testing.T) {
	coins := rand.New(rand.NewSource(94))
	for range 150 {
		d := drugOfDay(100 + coins.Int63n(400))
		var given []impl.Given
		refused := 0
		for range 60 {
			dose := impl.Given{Drug: 3, Time: coins.Int63n(6000), Amount: 1 + coins.Int63n(150)}
			if coins.Intn(10) == 0 {
				given = append(given, impl.Given{Drug: 9, Time: coins.Int63n(6000), Amount: 1000})
			}
			ok, sum := impl.MayGive(d, given, dose.Time, dose.Amount)
			with := worstDay(3, append(slices.Clone(given), dose), 0, 6000)
			if ok != (with <= d.DayMost) {
				t.Fatalf("%v and %+v, a day of %d: %v, %d, and the worst day %d", given, dose, d.DayMost, ok, sum, with)
			}
			if !ok {
				refused++
				if sum != with {
					t.Fatalf("%v and %+v: %d, and the worst day %d", given, dose, sum, with)
				}
				continue
			}
			given = append(given, dose)
		}
		if refused == 0 || len(given) == 0 {
			t.Fatal("all of one kind")
		}
	}
}

func TestWhatWasGivenStays(t *testing.T) {
	room := append(givenOf(5900, 1000, 4500, 10, 6400, 20), impl.Given{Drug: 8, Time: 5000, Amount: 4})
	room = append(room, givenOf(4000, 1, 5500, 100, 5001, 77, 4444, 88)...)
	before := slices.Clone(room)
	given := room[:6]
	for _, most := range []int64{1, 900, 1127, 1000000000} {
		checkMay(t, drugOfDay(most), given, 5000, 7)
		checkMay(t, drugOfDay(most), given[:2], 5000, 7)
		checkMay(t, drugOfDay(most), given[:0], 5000, 7)
	}
	if !slices.Equal(room, before) {
		t.Fatal(room)
	}
}
