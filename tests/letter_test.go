package tests

import (
	"math"
	"math/rand"
	"slices"
	"testing"

	"loop.example/g00060/impl"
)

func letterOf(from, seq, corrects, key, value int64) impl.Letter {
	return impl.Letter{From: from, Seq: seq, Corrects: corrects, Key: key, Value: value}
}

func factOf(key, value int64) impl.Fact { return impl.Fact{Key: key, Value: value} }

func isLetter(l impl.Letter) bool {
	corrects := l.Corrects == -1 || within(l.Corrects, 0, l.Seq-1)
	return within(l.From, 0, 19) && within(l.Seq, 0, 9999) && corrects && within(l.Key, 0, 99) && within(l.Value, -100000, 100000)
}

// lettersThatCount sorts all letters that are as told, and of those with one From and Seq takes the last.
func lettersThatCount(letters []impl.Letter) []impl.Letter {
	sorted := []impl.Letter{}
	for _, l := range letters {
		if isLetter(l) {
			sorted = append(sorted, l)
		}
	}
	slices.SortFunc(sorted, func(a, b impl.Letter) int {
		return slices.Compare([]int64{a.From, a.Seq, a.Corrects, a.Key, a.Value}, []int64{b.From, b.Seq, b.Corrects, b.Key, b.Value})
	})
	counting := []impl.Letter{}
	for at, l := range sorted {
		if at+1 == len(sorted) || sorted[at+1].From != l.From || sorted[at+1].Seq != l.Seq {
			counting = append(counting, l)
		}
	}
	return counting
}

func lettersThatHold(letters []impl.Letter) []impl.Letter {
	counting, holding := lettersThatCount(letters), []impl.Letter{}
	for _, l := range counting {
		replaced := slices.ContainsFunc(counting, func(o impl.Letter) bool { return o.From == l.From && o.Corrects == l.Seq })
		if !replaced {
			holding = append(holding, l)
		}
	}
	return holding
}

func wantedFold(letters []impl.Letter) []impl.Fact {
	facts := []impl.Fact{}
	if len(letters) > 1000 {
		return nil
	}
	holding := lettersThatHold(letters)
	slices.SortFunc(holding, func(a, b impl.Letter) int {
		return slices.Compare([]int64{a.Key, -a.Seq, -a.From}, []int64{b.Key, -b.Seq, -b.From})
	})
	for at, l := range holding {
		if at == 0 || holding[at-1].Key != l.Key {
			facts = append(facts, factOf(l.Key, l.Value))
		}
	}
	return facts
}

func checkFold(t *testing.T, what string, letters []impl.Letter, want ...impl.Fact) {
	t.Helper()
	if got := impl.Fold(letters); !slices.Equal(got, want) {
		t.Errorf("%s: Fold(%+v) = %v, want %v", what, letters, got, want)
	}
	if told := wantedFold(letters); !slices.Equal(told, want) {
		t.Errorf("%s: the test itself tells %v, want %v", what, told, want)
	}
}

// checkFoldInAnyOrder also tries the letters the other way round, and each of them twice.
func checkFoldInAnyOrder(t *testing.T, what string, letters []impl.Letter, want ...impl.Fact) {
	t.Helper()
	checkFold(t, what, letters, want...)
	for turn := range letters {
		turned := slices.Concat(letters[turn:], letters[:turn])
		checkFold(t, what+", turned", turned, want...)
		slices.Reverse(turned)
		checkFold(t, what+", the other way round", turned, want...)
		checkFold(t, what+", doubled", slices.Concat(turned, letters), want...)
	}
}

func checkFoldAsTold(t *testing.T, letters []impl.Letter) []impl.Fact {
	t.Helper()
	got := impl.Fold(letters)
	if want := wantedFold(letters); !slices.Equal(got, want) {
		t.Fatalf("Fold(%+v) = %v, want %v", letters, got, want)
	}
	return got
}

// lettersTo is so many letters of which each tells another value of the Key 5, the last one the greatest.
func lettersTo(count int) []impl.Letter {
	letters := []impl.Letter{}
	for seq := range int64(count) {
		letters = append(letters, letterOf(3, seq, -1, 5, 2*seq))
	}
	return letters
}

// randomLetter is of few senders, numbers and keys, so that many meet; some are not as told.
func randomLetter(coins *rand.Rand) impl.Letter {
	l := letterOf(coins.Int63n(3), coins.Int63n(12), -1, coins.Int63n(4), coins.Int63n(5)-2)
	if l.Seq > 0 && coins.Intn(2) == 0 {
		l.Corrects = coins.Int63n(l.Seq)
	}
	switch coins.Intn(40) {
	case 0:
		l.From = []int64{-1, 20}[coins.Intn(2)]
	case 1:
		l.Seq = []int64{-1, 10000}[coins.Intn(2)]
	case 2:
		l.Corrects = []int64{-2, l.Seq, l.Seq + 1}[coins.Intn(3)]
	case 3:
		l.Key = []int64{-1, 100}[coins.Intn(2)]
	case 4:
		l.Value = []int64{-100001, 100001}[coins.Intn(2)]
	}
	return l
}

func randomLetters(coins *rand.Rand, most int) []impl.Letter {
	letters := []impl.Letter{}
	for range coins.Intn(most + 1) {
		letters = append(letters, randomLetter(coins))
	}
	return letters
}

func TestFoldOfFew(t *testing.T) {
	checkFold(t, "none", nil)
	checkFold(t, "an empty list", []impl.Letter{})
	checkFold(t, "the zero letter is not as told", make([]impl.Letter, 1))
	checkFold(t, "one", []impl.Letter{letterOf(0, 0, -1, 0, 0)}, factOf(0, 0))
	checkFoldInAnyOrder(t, "rising by Key", []impl.Letter{letterOf(1, 5, -1, 9, 3), letterOf(1, 6, -1, 2, 4), letterOf(2, 1, -1, 5, -6)}, factOf(2, 4), factOf(5, -6), factOf(9, 3))
	checkFoldInAnyOrder(t, "the later Seq tells", []impl.Letter{letterOf(1, 5, -1, 9, 3), letterOf(1, 6, -1, 9, 1)}, factOf(9, 1))
	checkFoldInAnyOrder(t, "the later Seq tells, of a lesser sender", []impl.Letter{letterOf(8, 5, -1, 9, 3), letterOf(1, 6, -1, 9, 1)}, factOf(9, 1))
	checkFoldInAnyOrder(t, "of one Seq the greater sender tells", []impl.Letter{letterOf(1, 5, -1, 9, 3), letterOf(2, 5, -1, 9, 1)}, factOf(9, 1))
	checkFoldInAnyOrder(t, "of three senders", []impl.Letter{letterOf(19, 4, -1, 9, 8), letterOf(0, 5, -1, 9, 7), letterOf(1, 5, -1, 9, -3), letterOf(2, 4, -1, 9, 1)}, factOf(9, -3))
}

func TestHowManyLetters(t *testing.T) {
	for _, count := range []int{1, 2, 999, 1000} {
		checkFold(t, "so many", lettersTo(count), factOf(5, 2*int64(count)-2))
	}
	for _, count := range []int{1001, 1002, 3000} {
		checkFold(t, "too many", lettersTo(count))
		checkFold(t, "too many of the same", slices.Repeat(lettersTo(1), count))
		checkFold(t, "too many that are not as told", make([]impl.Letter, count))
	}
	checkFold(t, "MaxSteps of the same", slices.Repeat(lettersTo(1), 1000), factOf(5, 0))
	checkFold(t, "the first and the last of MaxSteps", slices.Concat([]impl.Letter{letterOf(1, 1, -1, 7, 8)}, make([]impl.Letter, 998), []impl.Letter{letterOf(1, 2, -1, 4, 9)}), factOf(4, 9), factOf(7, 8))
	all := []impl.Letter{}
	for n := range int64(1000) {
		all = append(all, letterOf(n%20, n, -1, n%100, n))
	}
	want := []impl.Fact{}
	for key := range int64(100) {
		want = append(want, factOf(key, 900+key))
	}
	checkFold(t, "all keys", all, want...)
}

// Each number at its ends and beyond them, alone and beside a letter that tells the same Key.
func TestLettersAsTold(t *testing.T) {
	other := letterOf(4, 0, -1, 50, 7)
	for _, l := range []impl.Letter{
		letterOf(0, 5, -1, 50, 1), letterOf(19, 5, -1, 50, 1), letterOf(3, 9999, -1, 50, 1), letterOf(3, 1, -1, 50, 1), letterOf(3, 5, 0, 50, 1), letterOf(3, 5, 4, 50, 1), letterOf(3, 1, 0, 50, 1), letterOf(3, 9999, 9998, 50, 1), letterOf(3, 5, -1, 50, -100000), letterOf(3, 5, -1, 50, 100000),
	} {
		checkFold(t, "as told", []impl.Letter{l}, factOf(50, l.Value))
		checkFoldInAnyOrder(t, "as told, beside another one", []impl.Letter{l, other}, factOf(50, l.Value))
	}
	checkFold(t, "Seq 0", []impl.Letter{letterOf(3, 0, -1, 50, 1)}, factOf(50, 1))
	checkFold(t, "Key 0", []impl.Letter{letterOf(3, 5, -1, 0, 1)}, factOf(0, 1))
	checkFold(t, "Key 99", []impl.Letter{letterOf(3, 5, -1, 99, 1)}, factOf(99, 1))
	for _, l := range []impl.Letter{
		letterOf(-1, 5, -1, 50, 1), letterOf(20, 5, -1, 50, 1), letterOf(3, -1, -1, 50, 1), letterOf(3, -1, -2, 50, 1), letterOf(3, 10000, -1, 50, 1), letterOf(3, 5, -2, 50, 1), letterOf(3, 5, 5, 50, 1), letterOf(3, 5, 6, 50, 1), letterOf(3, 0, 0, 50, 1), letterOf(3, 0, 1, 50, 1), letterOf(3, 5, -1, -1, 1), letterOf(3, 5, -1, 100, 1), letterOf(3, 5, -1, 50, -100001), letterOf(3, 5, -1, 50, 100001),
		letterOf(math.MinInt64, 5, -1, 50, 1), letterOf(math.MaxInt64, 5, -1, 50, 1), letterOf(3, math.MinInt64, -1, 50, 1), letterOf(3, math.MaxInt64, -1, 50, 1), letterOf(3, 5, math.MinInt64, 50, 1), letterOf(3, 5, math.MaxInt64, 50, 1), letterOf(3, 5, -1, math.MinInt64, 1), letterOf(3, 5, -1, math.MaxInt64, 1), letterOf(3, 5, -1, 50, math.MinInt64), letterOf(3, 5, -1, 50, math.MaxInt64), letterOf(3, math.MinInt64, math.MinInt64, 50, 1),
	} {
		checkFold(t, "not as told", []impl.Letter{l})
		checkFoldInAnyOrder(t, "not as told, beside another one", []impl.Letter{l, other}, factOf(50, 7))
	}
}

// A letter that is not as told neither counts for its number nor corrects another one.
func TestLettersNotAsToldCountAsNotCome(t *testing.T) {
	kept := letterOf(3, 5, -1, 50, 1)
	for _, l := range []impl.Letter{letterOf(3, 5, 5, 60, 2), letterOf(3, 5, 4, 100, 2), letterOf(3, 5, 4, 60, 100001), letterOf(3, 5, 4, -1, 2)} {
		checkFoldInAnyOrder(t, "of the same number", []impl.Letter{kept, l, letterOf(3, 4, -1, 70, 3)}, factOf(50, 1), factOf(70, 3))
	}
	for _, l := range []impl.Letter{letterOf(3, 10000, 5, 60, 2), letterOf(3, 7, 5, 100, 2), letterOf(3, 7, 5, 60, -100001)} {
		checkFoldInAnyOrder(t, "a correction", []impl.Letter{kept, l}, factOf(50, 1))
	}
}

func TestTheSameLetterTwice(t *testing.T) {
	l := letterOf(1, 5, -1, 9, 3)
	checkFold(t, "twice", []impl.Letter{l, l}, factOf(9, 3))
	checkFold(t, "twice, another one between", []impl.Letter{l, letterOf(1, 6, -1, 9, 4), l}, factOf(9, 4))
	checkFoldInAnyOrder(t, "a correction twice", []impl.Letter{l, letterOf(1, 6, 5, 8, 4), letterOf(1, 6, 5, 8, 4)}, factOf(8, 4))
	checkFoldInAnyOrder(t, "one that is corrected twice", []impl.Letter{l, letterOf(1, 6, 5, 8, 4), letterOf(1, 7, 5, 7, 2), l}, factOf(7, 2), factOf(8, 4))
}

// Letters of one From and Seq that differ: the greatest counts, and it alone.
func TestLettersOfOneNumber(t *testing.T) {
	checkFoldInAnyOrder(t, "in Corrects alone", []impl.Letter{letterOf(1, 5, -1, 9, 3), letterOf(1, 5, 2, 9, 3), letterOf(1, 2, -1, 8, 1)}, factOf(9, 3))
	checkFoldInAnyOrder(t, "in Corrects alone, both correct", []impl.Letter{letterOf(1, 5, 2, 9, 3), letterOf(1, 5, 3, 9, 3), letterOf(1, 2, -1, 8, 1), letterOf(1, 3, -1, 7, 1)}, factOf(8, 1), factOf(9, 3))
	checkFoldInAnyOrder(t, "in Key alone", []impl.Letter{letterOf(1, 5, -1, 9, 3), letterOf(1, 5, -1, 8, 3)}, factOf(9, 3))
	checkFoldInAnyOrder(t, "in Value alone", []impl.Letter{letterOf(1, 5, -1, 9, 3), letterOf(1, 5, -1, 9, 4)}, factOf(9, 4))
	checkFoldInAnyOrder(t, "in Value alone, below 0", []impl.Letter{letterOf(1, 5, -1, 9, -3), letterOf(1, 5, -1, 9, -4)}, factOf(9, -3))
	checkFoldInAnyOrder(t, "Corrects ahead of Key", []impl.Letter{letterOf(1, 5, 0, 8, 3), letterOf(1, 5, -1, 9, 3)}, factOf(8, 3))
	checkFoldInAnyOrder(t, "Corrects ahead of Value", []impl.Letter{letterOf(1, 5, 0, 8, 3), letterOf(1, 5, -1, 8, 4)}, factOf(8, 3))
	checkFoldInAnyOrder(t, "Key ahead of Value", []impl.Letter{letterOf(1, 5, -1, 8, 4), letterOf(1, 5, -1, 9, 3)}, factOf(9, 3))
	checkFoldInAnyOrder(t, "of three", []impl.Letter{letterOf(1, 5, 1, 8, 4), letterOf(1, 5, 3, 2, -9), letterOf(1, 5, 3, 2, -8)}, factOf(2, -8))
	checkFoldInAnyOrder(t, "the greatest is corrected: the other one does not come in its place", []impl.Letter{letterOf(1, 5, -1, 8, 4), letterOf(1, 5, -1, 9, 4), letterOf(1, 6, 5, 7, 2)}, factOf(7, 2))
	checkFoldInAnyOrder(t, "of two senders it is not one number", []impl.Letter{letterOf(1, 5, -1, 8, 4), letterOf(2, 5, -1, 9, 3)}, factOf(8, 4), factOf(9, 3))
	checkFoldInAnyOrder(t, "of two Seqs neither", []impl.Letter{letterOf(1, 5, -1, 8, 4), letterOf(1, 4, -1, 9, 3)}, factOf(8, 4), factOf(9, 3))
}

func TestCorrections(t *testing.T) {
	first := letterOf(1, 5, -1, 9, 3)
	checkFoldInAnyOrder(t, "of the same Key", []impl.Letter{first, letterOf(1, 6, 5, 9, 4)}, factOf(9, 4))
	checkFoldInAnyOrder(t, "of another Key", []impl.Letter{first, letterOf(1, 6, 5, 8, 4)}, factOf(8, 4))
	checkFold(t, "ahead of what it corrects", []impl.Letter{letterOf(1, 6, 5, 8, 4), first}, factOf(8, 4))
	checkFoldInAnyOrder(t, "an older letter tells then", []impl.Letter{letterOf(1, 4, -1, 9, 1), first, letterOf(1, 6, 5, 8, 4)}, factOf(8, 4), factOf(9, 1))
	checkFoldInAnyOrder(t, "another sender's tells then", []impl.Letter{letterOf(0, 5, -1, 9, 1), first, letterOf(1, 6, 5, 8, 4)}, factOf(8, 4), factOf(9, 1))
	checkFoldInAnyOrder(t, "far behind", []impl.Letter{first, letterOf(1, 9999, 5, 8, 4)}, factOf(8, 4))
	checkFoldInAnyOrder(t, "of Seq 0", []impl.Letter{letterOf(1, 0, -1, 9, 3), letterOf(1, 1, 0, 8, 4)}, factOf(8, 4))
	checkFoldInAnyOrder(t, "of a letter that did not come", []impl.Letter{first, letterOf(1, 6, 4, 8, 4)}, factOf(8, 4), factOf(9, 3))
	checkFold(t, "of a letter that did not come, alone", []impl.Letter{letterOf(1, 6, 4, 8, 4)}, factOf(8, 4))
	checkFoldInAnyOrder(t, "of another sender's number", []impl.Letter{first, letterOf(2, 6, 5, 8, 4)}, factOf(8, 4), factOf(9, 3))
	checkFoldInAnyOrder(t, "of one number of two senders", []impl.Letter{first, letterOf(2, 5, -1, 7, 2), letterOf(2, 6, 5, 8, 4)}, factOf(8, 4), factOf(9, 3))
	checkFoldInAnyOrder(t, "twice of one letter", []impl.Letter{first, letterOf(1, 6, 5, 9, 4), letterOf(1, 7, 5, 9, 5)}, factOf(9, 5))
	checkFoldInAnyOrder(t, "of all but one", []impl.Letter{letterOf(1, 1, -1, 1, 1), letterOf(1, 2, 1, 2, 2), letterOf(1, 3, 2, 3, 3), letterOf(1, 4, 3, 4, 4)}, factOf(4, 4))
}

// A correction that is corrected itself goes on replacing what it replaced.
func TestCorrectionsOfCorrections(t *testing.T) {
	checkFoldInAnyOrder(t, "the first does not come back", []impl.Letter{letterOf(1, 5, -1, 9, 3), letterOf(1, 6, 5, 9, 4), letterOf(1, 7, 6, 8, 1)}, factOf(8, 1))
	checkFoldInAnyOrder(t, "of one Key", []impl.Letter{letterOf(1, 5, -1, 9, 3), letterOf(1, 6, 5, 9, 4), letterOf(1, 7, 6, 9, 1)}, factOf(9, 1))
	checkFoldInAnyOrder(t, "where the one between did not come", []impl.Letter{letterOf(1, 5, -1, 9, 3), letterOf(1, 7, 6, 8, 1)}, factOf(8, 1), factOf(9, 3))
	checkFoldInAnyOrder(t, "where the one between does not count", []impl.Letter{letterOf(1, 5, -1, 9, 3), letterOf(1, 6, 5, 9, 100001), letterOf(1, 7, 6, 8, 1)}, factOf(8, 1), factOf(9, 3))
	checkFoldInAnyOrder(t, "where another one of its number counts", []impl.Letter{letterOf(1, 4, -1, 2, 2), letterOf(1, 3, -1, 9, 3), letterOf(1, 6, 3, 9, 4), letterOf(1, 6, 4, 9, 4)}, factOf(9, 4))
}

func TestSendersWithOneKey(t *testing.T) {
	for from := int64(0); from < 19; from++ {
		checkFoldInAnyOrder(t, "one Seq", []impl.Letter{letterOf(from, 5, -1, 9, 8), letterOf(from+1, 5, -1, 9, 1)}, factOf(9, 1))
		checkFoldInAnyOrder(t, "the lesser is later", []impl.Letter{letterOf(from, 6, -1, 9, 1), letterOf(from+1, 5, -1, 9, 8)}, factOf(9, 1))
		checkFoldInAnyOrder(t, "the greater is corrected", []impl.Letter{letterOf(from, 5, -1, 9, 8), letterOf(from+1, 5, -1, 9, 1), letterOf(from+1, 6, 5, 3, 3)}, factOf(3, 3), factOf(9, 8))
	}
	all := []impl.Letter{}
	for from := range int64(20) {
		all = append(all, letterOf(from, 5, -1, 9, 100-from))
	}
	checkFoldInAnyOrder(t, "all senders", all, factOf(9, 81))
}

func TestFoldOfManyLetters(t *testing.T) {
	coins := rand.New(rand.NewSource(157))
	told, none := 0, 0
	for range 20000 {
		facts := checkFoldAsTold(t, randomLetters(coins, 30))
		told += len(facts)
		if len(facts) == 0 {
			none++
		}
	}
	if told < 20000 || none < 100 {
		t.Error(told, none)
	}
}

func TestFoldOfWideLetters(t *testing.T) {
	coins := rand.New(rand.NewSource(158))
	for range 200 {
		letters := []impl.Letter{}
		for range 900 + coins.Intn(102) {
			seq := coins.Int63n(10000)
			letters = append(letters, letterOf(coins.Int63n(20), seq, coins.Int63n(seq+1)-1, coins.Int63n(100), coins.Int63n(200001)-100000))
		}
		checkFoldAsTold(t, letters)
	}
}

// Promise 18: letters doubled or in another order leave the same facts, while they are not too many.
func TestLettersInAnyOrder(t *testing.T) {
	coins := rand.New(rand.NewSource(159))
	for range 2000 {
		letters := randomLetters(coins, 40)
		want := impl.Fold(letters)
		for range 5 {
			coins.Shuffle(len(letters), func(a, b int) { letters[a], letters[b] = letters[b], letters[a] })
			if got := impl.Fold(letters); !slices.Equal(got, want) {
				t.Fatalf("Fold(%+v) = %v, and %v in another order", letters, got, want)
			}
			more := slices.Clone(letters)
			for range coins.Intn(len(letters) + 1) {
				more = slices.Insert(more, coins.Intn(len(more)), letters[coins.Intn(len(letters))])
			}
			if got := impl.Fold(more); !slices.Equal(got, want) {
				t.Fatalf("Fold(%+v) = %v, and %v of each once", more, got, want)
			}
		}
	}
}

// Promise 18 at its limit: doubled up to MaxSteps, and one more.
func TestLettersDoubledUpToTheLimit(t *testing.T) {
	coins := rand.New(rand.NewSource(160))
	for range 20 {
		letters := randomLetters(coins, 500)
		if len(letters) == 0 {
			continue
		}
		want := impl.Fold(letters)
		full := slices.Repeat(letters, 1000/len(letters))
		full = append(full, letters[:1000-len(full)]...)
		coins.Shuffle(len(full), func(a, b int) { full[a], full[b] = full[b], full[a] })
		if got := impl.Fold(full); !slices.Equal(got, want) {
			t.Fatalf("Fold(%+v) = %v, and %v of each once", full, got, want)
		}
		checkFold(t, "one more", append(full, letters[0]))
	}
}

// Whatever comes, each fact is told once, rising by Key, and by a letter that came.
func TestFactsAreOfLetters(t *testing.T) {
	coins := rand.New(rand.NewSource(161))
	for range 3000 {
		letters := randomLetters(coins, 40)
		facts := impl.Fold(letters)
		for at, f := range facts {
			if at > 0 && facts[at-1].Key >= f.Key {
				t.Fatalf("Fold(%+v) = %v does not rise", letters, facts)
			}
			came := func(l impl.Letter) bool { return isLetter(l) && l.Key == f.Key && l.Value == f.Value }
			if !slices.ContainsFunc(letters, came) {
				t.Fatalf("Fold(%+v) = %v: nobody said %v", letters, facts, f)
			}
		}
	}
}

func TestLettersStayAndFactsAreNewMemory(t *testing.T) {
	room := []impl.Letter{letterOf(1, 5, -1, 9, 3), letterOf(1, 5, 2, 8, 4), letterOf(2, 9, -1, 1, 1), letterOf(1, 6, 5, 9, 4), letterOf(-1, -1, -1, -1, -1), letterOf(7, 7, 7, 7, 7)}
	before := slices.Clone(room)
	for count := range len(room) {
		letters := room[:count]
		facts, missing := impl.Fold(letters), impl.Missing(letters, 1)
		keptFacts, keptMissing := slices.Clone(facts), slices.Clone(missing)
		otherFacts, otherMissing := impl.Fold(letters), impl.Missing(letters, 1)
		clear(otherFacts[:cap(otherFacts)])
		clear(otherMissing[:cap(otherMissing)])
		if !slices.Equal(room, before) {
			t.Fatal("an argument was written into")
		}
		if !slices.Equal(facts, keptFacts) || !slices.Equal(missing, keptMissing) {
			t.Fatal("two answers share memory")
		}
	}
}
