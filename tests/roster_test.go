package tests

import (
	"math"
	"slices"
	"testing"

	"loop.example/g00060/impl"
)

func isRoster(people, days, need, run int64) bool {
	return within(people, 1, 30) && within(days, 0, 60) && within(need, 0, people) && within(run, 1, 10)
}

// worksOn asks the roster up to now: of each day a list of who works.
func worksOn(days [][]int64, who int64, day int) bool {
	return day >= 0 && slices.Contains(days[day], who)
}

// isResting looks back at the last run days.
func isResting(days [][]int64, who, run int64) bool {
	for back := range int(run) {
		if !worksOn(days, who, len(days)-1-back) {
			return false
		}
	}
	return true
}

func daysWorked(days [][]int64, who int64) int {
	count := 0
	for day := range days {
		if worksOn(days, who, day) {
			count++
		}
	}
	return count
}

// wantedDay takes one after the other who is next.
func wantedDay(days [][]int64, people, need, run int64) []int64 {
	today := []int64{}
	for range need {
		next := int64(-1)
		for who := range people {
			if slices.Contains(today, who) || isResting(days, who, run) {
				continue
			}
			if next < 0 || daysWorked(days, who) < daysWorked(days, next) {
				next = who
			}
		}
		if next >= 0 {
			today = append(today, next)
		}
	}
	slices.Sort(today)
	return today
}

func wantedRoster(people, days, need, run int64) []int64 {
	list, past := []int64{}, [][]int64{}
	if !isRoster(people, days, need, run) {
		return list
	}
	for range days {
		today := wantedDay(past, people, need, run)
		past = append(past, today)
		lacking := int(need) - len(today)
		list = slices.Concat(list, today, slices.Repeat([]int64{-1}, lacking))
	}
	return list
}

func checkRoster(t *testing.T, what string, people, days, need, run int64, want ...int64) {
	t.Helper()
	if got := impl.Roster(people, days, need, run); !slices.Equal(got, want) {
		t.Errorf("%s: Roster(%d, %d, %d, %d) = %v, want %v", what, people, days, need, run, got, want)
	}
	if told := wantedRoster(people, days, need, run); !slices.Equal(told, want) {
		t.Errorf("%s: the test itself tells %v, want %v", what, told, want)
	}
}

func TestRosterOfFew(t *testing.T) {
	checkRoster(t, "the given one", 2, 3, 1, 1, 0, 1, 0)
	checkRoster(t, "one after the other", 3, 7, 1, 1, 0, 1, 2, 0, 1, 2, 0)
	checkRoster(t, "one after the other, though they might go on", 3, 7, 1, 10, 0, 1, 2, 0, 1, 2, 0)
	checkRoster(t, "two of three, two days in a row", 3, 4, 2, 2, 0, 1, 0, 2, 1, 2, 0, 1)
	checkRoster(t, "two of three, one day in a row", 3, 4, 2, 1, 0, 1, 2, -1, 0, 1, 2, -1)
	checkRoster(t, "two of three, many days in a row", 3, 6, 2, 10, 0, 1, 0, 2, 1, 2, 0, 1, 0, 2, 1, 2)
	checkRoster(t, "two of four", 4, 3, 2, 1, 0, 1, 2, 3, 0, 1)
	checkRoster(t, "three of four, one day in a row", 4, 3, 3, 1, 0, 1, 2, 3, -1, -1, 0, 1, 2)
	checkRoster(t, "three of four, two days in a row", 4, 4, 3, 2, 0, 1, 2, 0, 1, 3, 2, 3, -1, 0, 1, 2)
}

func TestRosterOfOne(t *testing.T) {
	checkRoster(t, "every other day", 1, 5, 1, 1, 0, -1, 0, -1, 0)
	checkRoster(t, "two days of three", 1, 7, 1, 2, 0, 0, -1, 0, 0, -1, 0)
	checkRoster(t, "ten days of eleven", 1, 13, 1, 10, 0, 0, 0, 0, 0, 0, 0, 0, 0, 0, -1, 0, 0)
	checkRoster(t, "nine days of ten", 1, 11, 1, 9, 0, 0, 0, 0, 0, 0, 0, 0, 0, -1, 0)
	checkRoster(t, "one day", 1, 1, 1, 1, 0)
	checkRoster(t, "no need", 1, 5, 0, 1)
}

func TestRosterOfAllAtOnce(t *testing.T) {
	checkRoster(t, "two", 2, 4, 2, 1, 0, 1, -1, -1, 0, 1, -1, -1)
	checkRoster(t, "three, two days in a row", 3, 4, 3, 2, 0, 1, 2, 0, 1, 2, -1, -1, -1, 0, 1, 2)
	all, none := numbersTo(30), slices.Repeat([]int64{-1}, 30)
	checkRoster(t, "30", 30, 3, 30, 1, slices.Concat(all, none, all)...)
	checkRoster(t, "30, ten days in a row", 30, 12, 30, 10, slices.Concat(slices.Repeat(all, 10), none, all)...)
}

func TestNumbersOfRostersAtTheirEnds(t *testing.T) {
	for _, n := range []int64{math.MinInt64, -60, -30, -2, -1, 31, 32, 61, 100, math.MaxInt64} {
		checkRoster(t, "people", n, 3, 1, 1)
		checkRoster(t, "people, no need", n, 3, 0, 1)
		checkRoster(t, "need", 30, 3, n, 1)
		checkRoster(t, "run", 2, 3, 1, n)
		checkRoster(t, "all", n, n, n, n)
	}
	for _, days := range []int64{math.MinInt64, -60, -2, -1, 61, 62, math.MaxInt64} {
		checkRoster(t, "days", 2, days, 1, 1)
	}
	checkRoster(t, "nobody", 0, 3, 0, 1)
	checkRoster(t, "nobody, but a need", 0, 3, 1, 1)
	checkRoster(t, "no run", 2, 3, 1, 0)
	checkRoster(t, "a run of 11", 2, 3, 1, 11)
	checkRoster(t, "a need below 0", 2, 3, -1, 1)
	checkRoster(t, "a need of one more than people", 2, 3, 3, 1)
	checkRoster(t, "all 0", 0, 0, 0, 0)
	checkRoster(t, "no days", 2, 0, 1, 1)
	checkRoster(t, "no days, 30 people", 30, 0, 30, 10)
	checkRoster(t, "no need, 60 days", 30, 60, 0, 10)
	for _, want := range []struct{ people, days, need, run, length int64 }{
		{1, 60, 1, 1, 60}, {30, 60, 30, 10, 1800}, {30, 60, 1, 1, 60}, {30, 1, 30, 1, 30}, {30, 60, 29, 10, 1740}, {29, 59, 29, 9, 1711}, {30, 61, 30, 10, 0}, {31, 60, 30, 10, 0}, {30, 60, 31, 10, 0}, {30, 60, 30, 11, 0},
	} {
		list := impl.Roster(want.people, want.days, want.need, want.run)
		if int64(len(list)) != want.length {
			t.Error(want, len(list))
		}
		checkRoster(t, "at the ends", want.people, want.days, want.need, want.run, wantedRoster(want.people, want.days, want.need, want.run)...)
	}
}

func TestAllSmallRosters(t *testing.T) {
	for people := int64(-1); people <= 6; people++ {
		for need := int64(-1); need <= people+2; need++ {
			for run := int64(-1); run <= 12; run++ {
				for _, days := range []int64{-1, 0, 1, 2, 5, 13, 25} {
					checkRoster(t, "small", people, days, need, run, wantedRoster(people, days, need, run)...)
				}
			}
		}
	}
}

// eachRoster goes through all people, needs and runs, with as many days as may be.
func eachRoster(do func(people, need, run int64, list []int64)) {
	for people := int64(1); people <= 30; people++ {
		for need := range people + 1 {
			for run := int64(1); run <= 10; run++ {
				do(people, need, run, impl.Roster(people, 60, need, run))
			}
		}
	}
}

// Promise 19: nobody works more than run days in a row.
func TestNobodyWorksTooManyDaysInARow(t *testing.T) {
	atRun, lacking := 0, 0
	eachRoster(func(people, need, run int64, list []int64) {
		inRow := make([]int64, people)
		for day := range int64(60) {
			today := list[day*need : (day+1)*need]
			for who := range people {
				if !slices.Contains(today, who) {
					inRow[who] = 0
					continue
				}
				inRow[who]++
				if inRow[who] > run {
					t.Fatalf("Roster(%d, 60, %d, %d): %d works %d days in a row", people, need, run, who, inRow[who])
				}
				if inRow[who] == run {
					atRun++
				}
			}
			if slices.Contains(today, -1) {
				lacking++
			}
		}
	})
	if atRun < 10000 || lacking < 1000 {
		t.Error(atRun, lacking)
	}
}

// Each day has need numbers: people, rising, and -1 only at its end and where nobody is left who does not rest.
func TestDaysOfRosters(t *testing.T) {
	eachRoster(func(people, need, run int64, list []int64) {
		if int64(len(list)) != 60*need {
			t.Fatal(people, need, run, len(list))
		}
		past := [][]int64{}
		for day := range int64(60) {
			today := list[day*need : (day+1)*need]
			works := slices.DeleteFunc(slices.Clone(today), func(who int64) bool { return who == -1 })
			awake := int64(0)
			for who := range people {
				if !isResting(past, who, run) {
					awake++
				}
			}
			if !slices.Equal(today[:len(works)], works) || int64(len(works)) != min(need, awake) {
				t.Fatal(people, need, run, day, today)
			}
			for place, who := range works {
				if !within(who, 0, people-1) || place > 0 && works[place-1] >= who {
					t.Fatal(people, need, run, day, today)
				}
			}
			past = append(past, works)
		}
	})
}

// With fewer days it is a beginning.
func TestRosterOfABeginning(t *testing.T) {
	for _, whole := range [][3]int64{{1, 1, 3}, {7, 5, 3}, {30, 29, 10}, {30, 17, 1}, {12, 12, 4}, {5, 3, 7}} {
		people, need, run := whole[0], whole[1], whole[2]
		list := impl.Roster(people, 60, need, run)
		for days := range int64(61) {
			if got := impl.Roster(people, days, need, run); !slices.Equal(got, list[:days*need]) {
				t.Fatal(whole, days, got)
			}
		}
	}
}

func TestManyRosters(t *testing.T) {
	for people := int64(7); people <= 30; people += 3 {
		for need := range people + 1 {
			for _, run := range []int64{1, 2, 3, 7, 10} {
				got, want := impl.Roster(people, 21, need, run), wantedRoster(people, 21, need, run)
				if !slices.Equal(got, want) {
					t.Fatalf("Roster(%d, 21, %d, %d) = %v, want %v", people, need, run, got, want)
				}
			}
		}
	}
}

func TestRostersAreNewMemory(t *testing.T) {
	for _, days := range []int64{-1, 0, 3, 60} {
		one, other := impl.Roster(5, days, 3, 2), impl.Roster(5, days, 3, 2)
		kept := slices.Clone(one)
		clear(other[:cap(other)])
		if !slices.Equal(one, kept) || !slices.Equal(impl.Roster(5, days, 3, 2), kept) {
			t.Fatal("two answers share memory")
		}
	}
}
