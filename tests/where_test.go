package tests

import (
	"math"
	"math/rand"
	"testing"

	"loop.example/g00060/impl"
)

func wantedWhere(h impl.House, person, time int64) int64 {
	bed := int64(-1)
	if !isHouse(h) {
		return bed
	}
	for _, stay := range h.Stays {
		if stay.Person == person && stay.From <= time && (stay.To == -1 || time < stay.To) {
			bed = stay.Bed
		}
	}
	return bed
}

func wantedMinutes(h impl.House, person, until int64) int64 {
	if !isHouse(h) || !within(until, 0, 10000000) {
		return -1
	}
	sum := int64(0)
	for _, stay := range h.Stays {
		to := stay.To
		if to == -1 || to > until {
			to = until
		}
		if stay.Person == person && stay.From < until {
			sum += to - stay.From
		}
	}
	return sum
}

// aPath is of person 5: bed 0 from 10 to 40, bed 1 from 40 to 60, away, bed 2 from 90 on.
func aPath() impl.House {
	return impl.House{Beds: bedsIn(6), Stays: []impl.Stay{
		{Person: 5, Sex: 1, Need: 1, Bed: 0, From: 10, To: 40},
		{Person: 6, Sex: 2, Need: 1, Bed: 4, From: 20, To: -1},
		{Person: 5, Sex: 1, Need: 1, Bed: 1, From: 40, To: 60},
		{Person: 5, Sex: 1, Need: 1, Bed: 2, From: 90, To: -1},
	}}
}

func TestWhereAt(t *testing.T) {
	h := aPath()
	for time, want := range map[int64]int64{
		math.MinInt64: -1, -2: -1, -1: -1, 0: -1, 9: -1, 10: 0, 11: 0, 39: 0, 40: 1, 41: 1, 59: 1, 60: -1, 61: -1, 89: -1, 90: 2, 91: 2, 10000000: 2, 10000001: 2, math.MaxInt64: 2,
	} {
		if got := impl.WhereAt(h, 5, time); got != want {
			t.Errorf("WhereAt(5, %d) = %d, want %d", time, got, want)
		}
	}
	for _, person := range []int64{math.MinInt64, -1, 0, 4, 7, 999, 1000, math.MaxInt64} {
		if got := impl.WhereAt(h, person, 50); got != -1 {
			t.Errorf("WhereAt(%d, 50) = %d", person, got)
		}
	}
}

func TestWhereAtTellsTheLastStay(t *testing.T) {
	h := impl.House{Beds: bedsIn(6), Stays: []impl.Stay{
		{Person: 5, Sex: 1, Need: 1, Bed: 3, From: 10, To: 100},
		{Person: 5, Sex: 1, Need: 1, Bed: 4, From: 20, To: 30},
		{Person: 5, Sex: 1, Need: 1, Bed: 2, From: 25, To: 25},
		{Person: 5, Sex: 1, Need: 1, Bed: 0, From: 50, To: -1},
		{Person: 5, Sex: 1, Need: 1, Bed: 1, From: 50, To: 60},
	}}
	for time, want := range map[int64]int64{9: -1, 10: 3, 19: 3, 20: 4, 25: 4, 29: 4, 30: 3, 49: 3, 50: 1, 59: 1, 60: 0, 99: 0, 100: 0} {
		if got := impl.WhereAt(h, 5, time); got != want {
			t.Errorf("WhereAt(5, %d) = %d, want %d", time, got, want)
		}
	}
	// Each of these stays counts for itself, also where they overlap.
	for until, want := range map[int64]int64{10: 0, 20: 10, 30: 30, 50: 50, 60: 80, 100: 160, 200: 260} {
		if got := impl.Minutes(h, 5, until); got != want {
			t.Errorf("Minutes(5, %d) = %d, want %d", until, got, want)
		}
	}
}

func TestMinutes(t *testing.T) {
	h := aPath()
	for until, want := range map[int64]int64{
		math.MinInt64: -1, -1: -1, 0: 0, 9: 0, 10: 0, 11: 1, 39: 29, 40: 30, 41: 31, 60: 50, 75: 50, 90: 50, 91: 51, 100: 60, 10000000: 50 + 10000000 - 90, 10000001: -1, math.MaxInt64: -1,
	} {
		if got := impl.Minutes(h, 5, until); got != want {
			t.Errorf("Minutes(5, %d) = %d, want %d", until, got, want)
		}
	}
	for _, person := range []int64{math.MinInt64, -1, 0, 4, 7, 999, 1000, math.MaxInt64} {
		if got := impl.Minutes(h, person, 50); got != 0 {
			t.Errorf("Minutes(%d, 50) = %d", person, got)
		}
	}
	day := impl.House{Beds: bedsIn(1), Stays: []impl.Stay{{Person: 0, Sex: 1, Need: 1, To: 10000000}}}
	if got := impl.Minutes(day, 0, 10000000); got != 10000000 {
		t.Error("from the first time to the last:", got)
	}
}

func TestMinutesOfAllStays(t *testing.T) {
	h := impl.House{Beds: bedsIn(1)}
	for range 1000 {
		h.Stays = append(h.Stays, impl.Stay{Person: 3, Sex: 1, Need: 1, To: 10000000})
	}
	if got := impl.Minutes(h, 3, 10000000); got != 10000000000 {
		t.Error(got)
	}
}

func TestWhereAtAndMinutesOfManyHouses(t *testing.T) {
	lists := append(someHouses(), noHouses()...)
	coins := rand.New(rand.NewSource(36))
	for range 300 {
		h := walkedHouse(coins, 1+coins.Intn(6), coins.Intn(30))
		if len(h.Stays) > 0 && coins.Intn(3) == 0 {
			stay := &h.Stays[coins.Intn(len(h.Stays))]
			stay.To = stay.From + coins.Int63n(20)
		}
		lists = append(lists, namedHouse{"random", h})
	}
	times := []int64{math.MinInt64, -2, 9999999, 10000000, 10000001, math.MaxInt64}
	for time := int64(-1); time < 40; time++ {
		times = append(times, time)
	}
	for _, list := range lists {
		for _, person := range []int64{-1, 0, 1, 2, 3, 5, 7, 10, 11, 999, 1000} {
			for _, time := range times {
				if got, want := impl.WhereAt(list.house, person, time), wantedWhere(list.house, person, time); got != want {
					t.Fatalf("%s: WhereAt(%v, %d, %d) = %d, want %d", list.name, list.house, person, time, got, want)
				}
				if got, want := impl.Minutes(list.house, person, time), wantedMinutes(list.house, person, time); got != want {
					t.Fatalf("%s: Minutes(%v, %d, %d) = %d, want %d", list.name, list.house, person, time, got, want)
				}
			}
		}
	}
}
