package tests

import (
	"cmp"
	"math"
	"math/rand"
	"slices"
	"testing"

	"loop.example/g00060/impl"
)

// wantedMask sorts the places of what might be masked beside one alone.
func wantedMask(counts []int64, small int64) []int64 {
	if len(counts) > 100 || !within(small, 0, 100) {
		return nil
	}
	row, masked, above := []int64{}, 0, []int{}
	for place, n := range counts {
		if !within(n, 0, 100000) {
			return nil
		}
		if n != 0 && n <= small {
			row, masked = append(row, -1), masked+1
			continue
		}
		row = append(row, n)
		if n > small {
			above = append(above, place)
		}
	}
	slices.SortStableFunc(above, func(a, b int) int { return cmp.Compare(counts[a], counts[b]) })
	if masked == 1 && len(above) > 0 {
		row[above[0]] = -1
	}
	return row
}

func checkMask(t *testing.T, what string, counts []int64, small int64, want ...int64) {
	t.Helper()
	if got := impl.Masked(counts, small); !slices.Equal(got, want) {
		t.Errorf("%s: Masked(%v, %d) = %v, want %v", what, counts, small, got, want)
	}
	if told := wantedMask(counts, small); !slices.Equal(told, want) {
		t.Errorf("%s: the test itself tells %v, want %v", what, told, want)
	}
}

// wantedGuess adds up what is told beside the masked ones.
func wantedGuess(told []int64, sum int64) []int64 {
	masked, others := []int{}, int64(0)
	if len(told) > 100 || !within(sum, 0, 10000000) {
		return nil
	}
	for place, n := range told {
		switch {
		case !within(n, -1, 100000):
			return nil
		case n == -1:
			masked = append(masked, place)
		default:
			others += n
		}
	}
	row := slices.Clone(told)
	if len(masked) == 1 {
		row[masked[0]] = sum - others
	}
	return row
}

func checkGuess(t *testing.T, what string, told []int64, sum int64, want ...int64) {
	t.Helper()
	if got := impl.Guess(told, sum); !slices.Equal(got, want) {
		t.Errorf("%s: Guess(%v, %d) = %v, want %v", what, told, sum, got, want)
	}
	if mine := wantedGuess(told, sum); !slices.Equal(mine, want) {
		t.Errorf("%s: the test itself tells %v, want %v", what, mine, want)
	}
}

func rowOf(numbers ...int64) []int64 { return numbers }

func sumOfRow(row []int64) int64 {
	sum := int64(0)
	for _, n := range row {
		sum += n
	}
	return sum
}

func maskedIn(row []int64) int {
	count := 0
	for _, n := range row {
		if n == -1 {
			count++
		}
	}
	return count
}

func TestMaskedWithNoneToMask(t *testing.T) {
	checkMask(t, "no count", nil, 5)
	checkMask(t, "no count, small 0", []int64{}, 0)
	checkMask(t, "noughts alone", rowOf(0, 0, 0), 100, 0, 0, 0)
	checkMask(t, "one nought", rowOf(0), 5, 0)
	checkMask(t, "all above small", rowOf(6, 7, 100000), 5, 6, 7, 100000)
	checkMask(t, "noughts and some above", rowOf(0, 6, 0, 9), 5, 0, 6, 0, 9)
	checkMask(t, "small is 0", rowOf(0, 1, 2, 3), 0, 0, 1, 2, 3)
	checkMask(t, "small is 0, one alone", rowOf(1), 0, 1)
}

func TestMaskedWithOneAlone(t *testing.T) {
	checkMask(t, "the given one", rowOf(0, 3, 20, 9), 4, 0, -1, 20, -1)
	checkMask(t, "the least ahead of it", rowOf(9, 20, 3), 4, -1, 20, -1)
	checkMask(t, "the least behind it", rowOf(3, 20, 9), 4, -1, 20, -1)
	checkMask(t, "of equal ones the first, ahead of it", rowOf(20, 9, 9, 3), 4, 20, -1, 9, -1)
	checkMask(t, "of equal ones the first, behind it", rowOf(3, 20, 9, 9), 4, -1, 20, -1, 9)
	checkMask(t, "of equal ones the first, on both sides", rowOf(9, 3, 9), 4, -1, -1, 9)
	checkMask(t, "all the others equal", rowOf(8, 8, 8, 1), 1, -1, 8, 8, -1)
	checkMask(t, "one above small is enough", rowOf(5, 6), 5, -1, -1)
	checkMask(t, "a nought is not above small", rowOf(0, 5, 0, 7), 5, 0, -1, 0, -1)
	checkMask(t, "noughts alone beside it", rowOf(0, 5, 0), 5, 0, -1, 0)
	checkMask(t, "nothing beside it", rowOf(5), 5, -1)
	checkMask(t, "nothing beside it, 1", rowOf(1), 1, -1)
	checkMask(t, "the others at MaxValue", rowOf(100000, 1, 100000), 100, -1, -1, 100000)
	checkMask(t, "the least is the last", rowOf(1, 50, 40, 30, 20, 10), 5, -1, 50, 40, 30, 20, -1)
	checkMask(t, "the least is the first", rowOf(10, 20, 30, 40, 50, 1), 5, -1, 20, 30, 40, 50, -1)
}

func TestMaskedWithMore(t *testing.T) {
	checkMask(t, "two", rowOf(1, 2, 9), 5, -1, -1, 9)
	checkMask(t, "two equal ones", rowOf(2, 9, 2), 5, -1, 9, -1)
	checkMask(t, "two, and noughts", rowOf(0, 5, 0, 1, 6), 5, 0, -1, 0, -1, 6)
	checkMask(t, "two alone", rowOf(5, 5), 5, -1, -1)
	checkMask(t, "three", rowOf(1, 9, 2, 8, 3), 5, -1, 9, -1, 8, -1)
	checkMask(t, "all", rowOf(1, 2, 3, 4, 5), 5, -1, -1, -1, -1, -1)
	checkMask(t, "all at small 100", rowOf(100, 1, 50), 100, -1, -1, -1)
}

func TestCountsAtTheirEnds(t *testing.T) {
	for _, small := range []int64{0, 1, 2, 5, 99, 100} {
		for _, n := range []int64{0, 1, small - 1, small, small + 1, 99999, 100000} {
			if n < 0 {
				continue
			}
			alone, others := n, rowOf(100000, 100000)
			if within(n, 1, small) {
				alone, others = -1, rowOf(-1, 100000)
			}
			checkMask(t, "one", rowOf(n), small, alone)
			checkMask(t, "with greater ones", rowOf(n, 100000, 100000), small, alone, others[0], others[1])
		}
	}
	for _, n := range []int64{math.MinInt64, -100000, -2, -1, 100001, 100002, math.MaxInt64} {
		checkMask(t, "one out of range", rowOf(n), 5)
		for place := range 3 {
			row := rowOf(3, 0, 9)
			row[place] = n
			checkMask(t, "out of range among others", row, 5)
		}
	}
}

func TestSmallAtItsEnds(t *testing.T) {
	row := rowOf(0, 1, 100, 101, 102, 100000)
	checkMask(t, "0", row, 0, row...)
	checkMask(t, "1", row, 1, 0, -1, -1, 101, 102, 100000)
	checkMask(t, "99", row, 99, 0, -1, -1, 101, 102, 100000)
	checkMask(t, "100", row, 100, 0, -1, -1, 101, 102, 100000)
	checkMask(t, "100, one alone", row[2:], 100, -1, -1, 102, 100000)
	for _, small := range []int64{math.MinInt64, -100, -2, -1, 101, 102, 100000, math.MaxInt64} {
		checkMask(t, "out of range", row, small)
		checkMask(t, "out of range, no count", nil, small)
		checkMask(t, "out of range, noughts", rowOf(0, 0), small)
	}
}

func TestLongRows(t *testing.T) {
	for _, count := range []int{1, 2, 99, 100, 101, 102, 5000} {
		noughts, threes := make([]int64, count), slices.Repeat([]int64{3}, count)
		masked := slices.Repeat([]int64{-1}, count)
		if count > 100 {
			checkMask(t, "too many noughts", noughts, 5)
			checkMask(t, "too many", threes, 5)
			checkGuess(t, "too many, none masked", threes, 3)
			checkGuess(t, "too many, all masked", masked, 3)
			continue
		}
		checkMask(t, "noughts", noughts, 5, noughts...)
		checkMask(t, "all masked", threes, 5, masked...)
		checkMask(t, "none masked", threes, 2, threes...)
		checkGuess(t, "none masked", threes, 3, threes...)
		last := slices.Clone(threes)
		last[count-1] = -1
		want := slices.Clone(threes)
		want[count-1] = 17
		checkGuess(t, "the last masked", last, 3*int64(count)+14, want...)
	}
	row := slices.Repeat([]int64{9}, 100)
	row[99], row[57] = 1, 8
	want := slices.Clone(row)
	want[99], want[57] = -1, -1
	checkMask(t, "one alone in a long row", row, 5, want...)
}

func randomRow(coins *rand.Rand, most int, small int64) []int64 {
	row := []int64{}
	for range coins.Intn(most + 1) {
		switch coins.Intn(6) {
		case 0:
			row = append(row, 0)
		case 1:
			row = append(row, coins.Int63n(small+2))
		case 2:
			row = append(row, coins.Int63n(100001))
		default:
			row = append(row, min(100000, small+1+coins.Int63n(4)))
		}
	}
	return row
}

func TestManyRows(t *testing.T) {
	coins := rand.New(rand.NewSource(152))
	refused, byCount := 0, [4]int{}
	for range 30000 {
		small := coins.Int63n(103) - 1
		row := randomRow(coins, 12, max(0, small))
		if len(row) > 0 && coins.Intn(10) == 0 {
			row[coins.Intn(len(row))] = []int64{math.MinInt64, -1, 100000, 100001, math.MaxInt64}[coins.Intn(5)]
		}
		got, want := impl.Masked(row, small), wantedMask(row, small)
		if !slices.Equal(got, want) {
			t.Fatalf("Masked(%v, %d) = %v, want %v", row, small, got, want)
		}
		if len(row) > 0 && len(got) == 0 {
			refused++
		}
		byCount[min(3, maskedIn(got))]++
	}
	if refused < 500 || slices.Min(byCount[:]) < 300 {
		t.Error(refused, byCount)
	}
}

func TestGuess(t *testing.T) {
	checkGuess(t, "the given one", rowOf(5, -1), 12, 5, 7)
	checkGuess(t, "the first", rowOf(-1, 5), 12, 7, 5)
	checkGuess(t, "one between", rowOf(1, -1, 2), 10, 1, 7, 2)
	checkGuess(t, "one beside noughts", rowOf(0, -1, 0), 3, 0, 3, 0)
	checkGuess(t, "one alone", rowOf(-1), 4, 4)
	checkGuess(t, "one alone, sum 0", rowOf(-1), 0, 0)
	checkGuess(t, "the others come to the sum", rowOf(5, -1, 7), 12, 5, 0, 7)
	checkGuess(t, "none", nil, 0)
	checkGuess(t, "none, with a sum", []int64{}, 12)
	checkGuess(t, "none masked", rowOf(5, 7), 12, 5, 7)
	checkGuess(t, "none masked, another sum", rowOf(5, 7), 99, 5, 7)
	checkGuess(t, "none masked, a lesser sum", rowOf(5, 7), 0, 5, 7)
	checkGuess(t, "two masked", rowOf(5, -1, -1), 12, 5, -1, -1)
	checkGuess(t, "two masked at the ends", rowOf(-1, 5, -1), 12, -1, 5, -1)
	checkGuess(t, "two alone", rowOf(-1, -1), 12, -1, -1)
	checkGuess(t, "two masked, the others come to the sum", rowOf(-1, 12, -1), 12, -1, 12, -1)
	checkGuess(t, "two masked, sum 0", rowOf(-1, -1), 0, -1, -1)
	checkGuess(t, "three masked", rowOf(-1, -1, 3, -1), 12, -1, -1, 3, -1)
}

// By the words of the chapter it is what the others lack, though nobody counts less than nothing.
func TestGuessBelowWhatTheOthersComeTo(t *testing.T) {
	checkGuess(t, "one less", rowOf(5, -1, 7), 11, 5, -1, 7)
	checkGuess(t, "two less", rowOf(5, -1, 7), 10, 5, -2, 7)
	checkGuess(t, "nothing", rowOf(5, -1, 7), 0, 5, -12, 7)
	checkGuess(t, "two masked", rowOf(5, -1, 7, -1), 0, 5, -1, 7, -1)
	most := slices.Repeat([]int64{100000}, 100)
	most[99] = -1
	want := slices.Clone(most)
	want[99] = -9900000
	checkGuess(t, "the most that may lack", most, 0, want...)
}

func TestNumbersOfToldRows(t *testing.T) {
	for _, n := range []int64{math.MinInt64, -100000, -3, -2, 100001, 100002, math.MaxInt64} {
		checkGuess(t, "one out of range", rowOf(n), 5)
		for place := range 3 {
			for _, row := range [][]int64{{3, 0, 9}, {-1, -1, -1}, {-1, 4, -1}} {
				row[place] = n
				checkGuess(t, "out of range among others", row, 50)
			}
		}
	}
	for _, n := range []int64{0, 1, 99999, 100000} {
		checkGuess(t, "in range", rowOf(n, -1), 100000, n, 100000-n)
		checkGuess(t, "in range, none masked", rowOf(n), 100000, n)
	}
}

func TestSumsAtTheirEnds(t *testing.T) {
	for _, sum := range []int64{math.MinInt64, -2, -1, 10000001, 10000002, math.MaxInt64} {
		checkGuess(t, "out of range", rowOf(5, -1), sum)
		checkGuess(t, "out of range, none masked", rowOf(5, 7), sum)
		checkGuess(t, "out of range, two masked", rowOf(-1, -1), sum)
		checkGuess(t, "out of range, none", nil, sum)
	}
	for _, sum := range []int64{0, 1, 9999999, 10000000} {
		checkGuess(t, "in range", rowOf(-1, 0), sum, sum, 0)
		checkGuess(t, "in range, two masked", rowOf(-1, -1), sum, -1, -1)
	}
	full := slices.Repeat([]int64{100000}, 100)
	full[0] = -1
	checkGuess(t, "the greatest sum", full, 10000000, slices.Repeat([]int64{100000}, 100)...)
}

func TestManyGuesses(t *testing.T) {
	coins := rand.New(rand.NewSource(153))
	for range 30000 {
		row := randomRow(coins, 8, 5)
		for range coins.Intn(3) {
			if len(row) > 0 {
				row[coins.Intn(len(row))] = []int64{-1, -1, -1, -1, -2, 100001}[coins.Intn(6)]
			}
		}
		sum := coins.Int63n(10000003) - 1
		if got, want := impl.Guess(row, sum), wantedGuess(row, sum); !slices.Equal(got, want) {
			t.Fatalf("Guess(%v, %d) = %v, want %v", row, sum, got, want)
		}
	}
}

// Promise 17: of a masked row with two or more masked Guess tells none of them; and where just one had to stay alone, it is told by its sum.
func TestGuessTellsNothingOfAMaskedRow(t *testing.T) {
	coins := rand.New(rand.NewSource(154))
	byCount := [4]int{}
	for range 30000 {
		small := coins.Int63n(101)
		counts := randomRow(coins, 8, small)
		told := impl.Masked(counts, small)
		for _, sum := range []int64{sumOfRow(counts), 0, coins.Int63n(10000001)} {
			guess := impl.Guess(told, sum)
			if maskedIn(told) != 1 && !slices.Equal(guess, told) {
				t.Fatalf("Guess(%v, %d) = %v", told, sum, guess)
			}
		}
		guess := impl.Guess(told, sumOfRow(counts))
		if maskedIn(told) == 1 && !slices.Equal(guess, counts) {
			t.Fatalf("Guess(%v, %d) = %v, want %v", told, sumOfRow(counts), guess, counts)
		}
		byCount[min(3, maskedIn(told))]++
	}
	if slices.Min(byCount[:]) < 500 {
		t.Error(byCount)
	}
}

// A masked row has one masked alone only where no other count could be masked with it; and all that is small is masked.
func TestOneStaysAloneOnlyWhereItMust(t *testing.T) {
	coins := rand.New(rand.NewSource(155))
	alone := 0
	for range 30000 {
		small := coins.Int63n(101)
		counts := randomRow(coins, 5, small)
		told := impl.Masked(counts, small)
		above := slices.ContainsFunc(counts, func(n int64) bool { return n > small })
		if maskedIn(told) == 1 {
			alone++
		}
		if maskedIn(told) == 1 && above {
			t.Fatalf("Masked(%v, %d) = %v", counts, small, told)
		}
		for place, n := range told {
			if n != -1 && n != counts[place] || within(n, 1, small) {
				t.Fatalf("Masked(%v, %d) = %v", counts, small, told)
			}
		}
	}
	if alone < 500 {
		t.Error(alone)
	}
}

func TestRowsStayAndAnswersAreNewMemory(t *testing.T) {
	for _, row := range [][]int64{{0, 3, 20, 9, 77, 78}, {0, 0, 0, 0, 77, 78}, {9, 9, 9, 9, 77, 78}, {1, 2, 3, 4, 77, 78}, {-1, 3, 4, 5, 77, 78}, {-1, -1, 4, 5, 77, 78}, {-2, 3, 4, 5, 77, 78}} {
		room := slices.Clone(row)
		for _, ask := range []func([]int64, int64) []int64{impl.Masked, impl.Guess} {
			for _, n := range []int64{-1, 0, 4, 100, 10000001} {
				got := ask(room[:4], n)
				kept := slices.Clone(got)
				other := ask(room[:4], n)
				clear(other[:cap(other)])
				if !slices.Equal(room, row) {
					t.Fatalf("%v: the row was written into, or shares memory with an answer", row)
				}
				if !slices.Equal(got, kept) {
					t.Fatalf("%v: two answers share memory", row)
				}
			}
		}
	}
}
