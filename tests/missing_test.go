package tests

import (
	"math"
	"math/rand"
	"slices"
	"testing"

	"loop.example/g00060/impl"
)

// wantedMissing asks of each number below the greatest whether it came.
func wantedMissing(letters []impl.Letter, from int64) []int64 {
	if len(letters) > 1000 || !within(from, 0, 19) {
		return nil
	}
	came, greatest := map[int64]bool{}, int64(-1)
	for _, l := range letters {
		if isLetter(l) && l.From == from {
			came[l.Seq], greatest = true, max(greatest, l.Seq)
		}
	}
	missing := []int64{}
	for seq := range max(greatest, 0) {
		if !came[seq] {
			missing = append(missing, seq)
		}
	}
	return missing
}

func checkMissing(t *testing.T, what string, letters []impl.Letter, from int64, want ...int64) {
	t.Helper()
	if got := impl.Missing(letters, from); !slices.Equal(got, want) {
		t.Errorf("%s: Missing(%+v, %d) = %v, want %v", what, letters, from, got, want)
	}
	if told := wantedMissing(letters, from); !slices.Equal(told, want) {
		t.Errorf("%s: the test itself tells %v, want %v", what, told, want)
	}
}

// cameFrom is a letter of a sender for each Seq.
func cameFrom(from int64, seqs ...int64) []impl.Letter {
	letters := []impl.Letter{}
	for _, seq := range seqs {
		letters = append(letters, letterOf(from, seq, -1, 5, seq))
	}
	return letters
}

func TestMissing(t *testing.T) {
	checkMissing(t, "no letters", nil, 3)
	checkMissing(t, "an empty list", []impl.Letter{}, 3)
	checkMissing(t, "between", cameFrom(3, 0, 1, 4, 6), 3, 2, 3, 5)
	checkMissing(t, "in another order", cameFrom(3, 6, 1, 0, 4), 3, 2, 3, 5)
	checkMissing(t, "from 0 on", cameFrom(3, 3), 3, 0, 1, 2)
	checkMissing(t, "none", cameFrom(3, 0, 1, 2, 3), 3)
	checkMissing(t, "none, in another order", cameFrom(3, 3, 1, 0, 2), 3)
	checkMissing(t, "twice the greatest", cameFrom(3, 3, 3, 1), 3, 0, 2)
	checkMissing(t, "twice another one", cameFrom(3, 1, 3, 1), 3, 0, 2)
	checkMissing(t, "one letter at 0", cameFrom(3, 0), 3)
	checkMissing(t, "one letter at 1", cameFrom(3, 1), 3, 0)
	checkMissing(t, "one letter at 9999", cameFrom(3, 9999), 3, numbersTo(9999)...)
	checkMissing(t, "letters at both ends", cameFrom(3, 9999, 0), 3, numbersTo(9999)[1:]...)
	checkMissing(t, "the last but one alone", cameFrom(3, 9998, 9999), 3, numbersTo(9998)...)
}

func TestMissingOfASender(t *testing.T) {
	letters := slices.Concat(cameFrom(0, 2), cameFrom(19, 1, 3), cameFrom(7, 0), cameFrom(-1, 5), cameFrom(20, 5))
	checkMissing(t, "sender 0", letters, 0, 0, 1)
	checkMissing(t, "sender 19", letters, 19, 0, 2)
	checkMissing(t, "with one letter at 0", letters, 7)
	checkMissing(t, "without letters", letters, 8)
	for _, from := range []int64{-1, 20, -2, 21, math.MinInt64, math.MaxInt64} {
		checkMissing(t, "none", letters, from)
		checkMissing(t, "none, with letters", cameFrom(from, 5, 9), from)
	}
	slices.Reverse(letters)
	checkMissing(t, "sender 0, the other way round", letters, 0, 0, 1)
	checkMissing(t, "sender 19, the other way round", letters, 19, 0, 2)
	for from := range int64(20) {
		checkMissing(t, "whichever", cameFrom(from, 2), from, 0, 1)
		checkMissing(t, "another one", cameFrom(from, 2), (from+1)%20)
	}
}

func TestMissingOfLettersNotAsTold(t *testing.T) {
	right := cameFrom(3, 4, 1)
	for _, l := range []impl.Letter{
		letterOf(3, 2, 2, 5, 5), letterOf(3, 2, 3, 5, 5), letterOf(3, 2, -2, 5, 5), letterOf(3, 2, -1, 100, 5), letterOf(3, 2, -1, -1, 5), letterOf(3, 2, -1, 5, 100001), letterOf(3, 2, -1, 5, -100001),
		letterOf(3, 9, 9, 5, 5), letterOf(3, 9, -2, 5, 5), letterOf(3, 9, -1, 100, 5), letterOf(3, 9, -1, -1, 5), letterOf(3, 9, -1, 5, 100001), letterOf(3, 9, -1, 5, -100001), letterOf(3, 10000, -1, 5, 5), letterOf(3, -1, -1, 5, 5), letterOf(3, -1, -2, 5, 5), letterOf(3, math.MaxInt64, -1, 5, 5), letterOf(3, math.MinInt64, -1, 5, 5),
	} {
		checkMissing(t, "alone", []impl.Letter{l}, 3)
		checkMissing(t, "behind", append(slices.Clone(right), l), 3, 0, 2, 3)
		checkMissing(t, "ahead", slices.Concat([]impl.Letter{l}, right), 3, 0, 2, 3)
	}
	for _, l := range []impl.Letter{letterOf(3, 2, 1, 5, 5), letterOf(3, 2, 0, 0, -100000), letterOf(3, 2, -1, 99, 100000)} {
		checkMissing(t, "as told", append(slices.Clone(right), l), 3, 0, 3)
	}
}

// What was corrected came, and so did each of two that differ; what is corrected did not come by that.
func TestMissingAndCorrections(t *testing.T) {
	checkMissing(t, "a letter that was corrected", []impl.Letter{letterOf(3, 1, -1, 5, 5), letterOf(3, 2, 1, 5, 6)}, 3, 0)
	checkMissing(t, "a correction of what did not come", []impl.Letter{letterOf(3, 2, 1, 5, 6)}, 3, 0, 1)
	checkMissing(t, "two of one number", []impl.Letter{letterOf(3, 2, 1, 5, 6), letterOf(3, 2, 0, 5, 6), letterOf(3, 2, 1, 5, 7)}, 3, 0, 1)
	checkMissing(t, "two of one number, one not as told", []impl.Letter{letterOf(3, 2, 1, 5, 6), letterOf(3, 2, 2, 5, 6)}, 3, 0, 1)
}

func TestMissingOfHowManyLetters(t *testing.T) {
	for _, count := range []int{1, 999, 1000} {
		letters := slices.Repeat(cameFrom(3, 2), count)
		checkMissing(t, "so many", letters, 3, 0, 1)
		checkMissing(t, "so many, all of which came", lettersTo(count), 3)
	}
	for _, count := range []int{1001, 1002, 3000} {
		checkMissing(t, "too many", slices.Repeat(cameFrom(3, 2), count), 3)
		checkMissing(t, "too many, none as told", append(make([]impl.Letter, count-1), cameFrom(3, 2)...), 3)
	}
	checkMissing(t, "the last of MaxSteps", append(make([]impl.Letter, 999), cameFrom(3, 2)...), 3, 0, 1)
}

func TestMissingOfManyLetters(t *testing.T) {
	coins := rand.New(rand.NewSource(162))
	told := 0
	for range 20000 {
		letters, from := randomLetters(coins, 20), coins.Int63n(5)-1
		got := impl.Missing(letters, from)
		if want := wantedMissing(letters, from); !slices.Equal(got, want) {
			t.Fatalf("Missing(%+v, %d) = %v, want %v", letters, from, got, want)
		}
		told += len(got)
		coins.Shuffle(len(letters), func(a, b int) { letters[a], letters[b] = letters[b], letters[a] })
		if again := impl.Missing(slices.Concat(letters, letters), from); !slices.Equal(got, again) {
			t.Fatalf("Missing(%+v, %d) = %v, and %v doubled and in another order", letters, from, got, again)
		}
	}
	if told < 20000 {
		t.Error(told)
	}
}

// Once what is missing has come, nothing is.
func TestNothingIsMissingInTheEnd(t *testing.T) {
	coins := rand.New(rand.NewSource(163))
	for range 500 {
		letters := cameFrom(3, coins.Int63n(400), coins.Int63n(400), coins.Int63n(400))
		letters = append(letters, cameFrom(3, impl.Missing(letters, 3)...)...)
		checkMissing(t, "all came", letters, 3)
		if gone := coins.Intn(len(letters)); gone >= 3 {
			checkMissing(t, "all but one", slices.Delete(slices.Clone(letters), gone, gone+1), 3, letters[gone].Seq)
		}
	}
}
