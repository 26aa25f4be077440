package tests

import (
	"fmt"
	"math"
	"math/big"
	"math/rand"
	"slices"
	"testing"

	"loop.example/g00060/impl"
)

// inPlace is a coin by which no place of a block is exchanged with another one: one less than what all numbers to 20 divide.
const inPlace = 232792559

// wantedOther is the place with which place k of a block is exchanged.
func wantedOther(a impl.Trial, block, k int64) int64 {
	if len(a.Coins) == 0 {
		return 0
	}
	number := (block*a.Block + a.Block - 1 - k) % int64(len(a.Coins))
	return new(big.Int).Mod(big.NewInt(a.Coins[number]), big.NewInt(k+1)).Int64()
}

// wantedArm goes from the place in the end back to the place at first, exchange by exchange.
func wantedArm(a impl.Trial, i int64) int64 {
	if !isTrial(a) || !within(i, 0, 999) {
		return -1
	}
	place := i % a.Block
	for k := int64(1); k < a.Block; k++ {
		other := wantedOther(a, i/a.Block, k)
		switch place {
		case k:
			place = other
		case other:
			place = k
		}
	}
	return place % a.Arms
}

func wantedBalance(a impl.Trial) []int64 {
	counts := []int64{}
	if !isTrial(a) {
		return counts
	}
	counts = make([]int64, a.Arms)
	for i := range a.Told {
		counts[wantedArm(a, i)]++
	}
	return counts
}

func checkArm(t *testing.T, what string, a impl.Trial, i int64, want int64) {
	t.Helper()
	if got := impl.Allocation(a, i); got != want {
		t.Errorf("%s: Allocation(%.300s, %d) = %d, want %d", what, fmt.Sprint(a), i, got, want)
	}
	if told := wantedArm(a, i); told != want {
		t.Errorf("%s: the test itself tells %d, want %d", what, told, want)
	}
}

// checkArms asks for the arms of the first numbers.
func checkArms(t *testing.T, what string, a impl.Trial, want ...int64) {
	t.Helper()
	for i, arm := range want {
		checkArm(t, what, a, int64(i), arm)
	}
}

func checkBalance(t *testing.T, what string, a impl.Trial, want ...int64) {
	t.Helper()
	if got := impl.Balance(a); !slices.Equal(got, want) {
		t.Errorf("%s: Balance(%.300s) = %v, want %v", what, fmt.Sprint(a), got, want)
	}
	if told := wantedBalance(a); !slices.Equal(told, want) {
		t.Errorf("%s: the test itself tells %v, want %v", what, told, want)
	}
}

// checkEnrol asks for what is told of the one that is next.
func checkEnrol(t *testing.T, what string, a impl.Trial) (impl.Trial, int64) {
	t.Helper()
	want, wantArm := impl.Trial{}, wantedArm(a, a.Told)
	if wantArm != -1 {
		want = trialOf(a.Arms, a.Block, a.Told+1, a.Coins...)
	}
	got, arm := impl.Enrol(a)
	if arm != wantArm || !sameTrial(got, want) {
		t.Errorf("%s: Enrol(%.300s) = %.300s, %d, want %.300s, %d", what, fmt.Sprint(a), fmt.Sprint(got), arm, fmt.Sprint(want), wantArm)
	}
	if next := impl.Allocation(a, a.Told); next != arm {
		t.Errorf("%s: Enrol(%.300s) tells %d, Allocation %d", what, fmt.Sprint(a), arm, next)
	}
	return got, arm
}

func TestAllocationWithoutCoins(t *testing.T) {
	checkArms(t, "two arms", trialOf(2, 2, 0), 1, 0, 1, 0, 1, 0)
	checkArms(t, "two arms, block of four", trialOf(2, 4, 0), 1, 0, 1, 0, 1, 0, 1, 0)
	checkArms(t, "three arms", trialOf(3, 3, 0), 1, 2, 0, 1, 2, 0)
	checkArms(t, "five arms", trialOf(5, 5, 0, []int64{}...), 1, 2, 3, 4, 0, 1, 2, 3, 4, 0)
}

func TestAllocationWithOneCoin(t *testing.T) {
	checkArms(t, "a coin of 0 is as none", trialOf(3, 3, 0, 0), 1, 2, 0, 1, 2, 0)
	checkArms(t, "a coin of 1", trialOf(2, 4, 0, 1), 0, 0, 1, 1, 0, 0, 1, 1)
	checkArms(t, "a coin of 1, three arms", trialOf(3, 3, 0, 1), 0, 2, 1, 0, 2, 1)
	checkArms(t, "a coin of 2, three arms", trialOf(3, 3, 0, 2), 1, 0, 2, 1, 0, 2)
	checkArms(t, "a coin of 3", trialOf(2, 4, 0, 3), 0, 1, 0, 1, 0, 1, 0, 1)
	eachTrial(func(arms, block int64) {
		for i := range 2 * block {
			checkArm(t, "a coin that leaves all in place", trialOf(arms, block, 0, inPlace), i, i%block%arms)
		}
	})
}

func TestAllocationByCoins(t *testing.T) {
	checkArms(t, "the given one", trialOf(2, 4, 3, 5, 1, 0, 3), 0, 0, 1, 1, 0, 0, 1, 1)
	checkArms(t, "blocks by coins of their own", trialOf(2, 2, 0, 0, 9, 1, 9, 1, 9, 0, 9), 1, 0, 0, 1, 0, 1, 1, 0, 1, 0, 0, 1)
	checkArms(t, "three coins for blocks of three", trialOf(3, 3, 0, 2, 0, 7), 1, 0, 2, 1, 0, 2)
	// The blocks ask for the coins 0 1, 1 0, 0 1.
	checkArms(t, "two coins, fewer than a block has", trialOf(3, 3, 0, 2, 0), 1, 0, 2, 1, 2, 0, 1, 0, 2)
	// The blocks ask for the coins 0 1, 3 0, 2 3, 1 2, 0 1.
	checkArms(t, "four coins, more than a block has", trialOf(3, 3, 0, 2, 1, 0, 0), 0, 1, 2, 1, 2, 0, 1, 2, 0, 2, 0, 1, 0, 1, 2)
	checkArms(t, "MaxList coins", trialOf(2, 2, 0, append([]int64{1, 0, 0}, make([]int64, 4093)...)...), 0, 1, 1, 0, 1, 0)
}

func TestAllocationByGreatCoins(t *testing.T) {
	checkArms(t, "one", trialOf(2, 4, 0, math.MaxInt64), 0, 0, 1, 1, 0, 0, 1, 1)
	checkArms(t, "one, three arms", trialOf(3, 3, 0, math.MaxInt64), 0, 2, 1, 0, 2, 1)
	eachTrial(func(arms, block int64) {
		a := trialOf(arms, block, 1000, math.MaxInt64, math.MaxInt64-1, math.MaxInt64-18, 1<<62)
		for _, i := range []int64{0, 1, block - 1, block, 500, 998, 999} {
			checkArm(t, "great coins", a, i, wantedArm(a, i))
		}
	})
}

// A block asks for one coin fewer than it has places.
func TestCoinsThatNobodyHangsOn(t *testing.T) {
	coins := rand.New(rand.NewSource(165))
	eachTrial(func(arms, block int64) {
		a := trialOf(arms, block, 0)
		for range 4 * block {
			a.Coins = append(a.Coins, coins.Int63n(1000000))
		}
		b := trialOf(arms, block, 0, a.Coins...)
		b.Coins = slices.Clone(b.Coins)
		for at := block - 1; at < 4*block; at += block {
			b.Coins[at]++
		}
		for i := range 4 * block {
			checkArm(t, "of one", a, i, wantedArm(b, i))
			checkArm(t, "of the other", b, i, wantedArm(a, i))
		}
	})
}

func TestAllocationOfNumbersAtTheirEnds(t *testing.T) {
	eachTrial(func(arms, block int64) {
		a := trialOf(arms, block, 0, 7, 0, 123456789, 2, 11)
		for _, i := range []int64{math.MinInt64, -1000, -2, -1, 1000, 1001, math.MaxInt64} {
			checkArm(t, "out of range", a, i, -1)
		}
		for _, i := range []int64{0, 1, block - 1, block, block + 1, 2*block - 1, 2 * block, 998, 999} {
			want := wantedArm(a, i)
			if !within(want, 0, arms-1) {
				t.Fatal(want)
			}
			checkArm(t, "in range", a, i, want)
		}
	})
}

// Who was told already changes nobody's arm.
func TestAllocationHangsOnNobodyTold(t *testing.T) {
	coins := rand.New(rand.NewSource(166))
	for range 1000 {
		a := randomTrial(coins)
		i := coins.Int63n(1000)
		want := wantedArm(a, i)
		for _, told := range []int64{0, 1, i, i + 1, 999, 1000} {
			a.Told = told
			checkArm(t, "so many told", a, i, want)
		}
	}
}

func TestAllocationOfManyTrials(t *testing.T) {
	coins := rand.New(rand.NewSource(167))
	byArm := [6]int{}
	for range 30000 {
		a, i := randomTrial(coins), coins.Int63n(1010)-5
		if coins.Intn(10) == 0 {
			spoilTrial(coins, &a)
		}
		want := wantedArm(a, i)
		if got := impl.Allocation(a, i); got != want {
			t.Fatalf("Allocation(%v, %d) = %d, want %d", a, i, got, want)
		}
		byArm[want+1]++
	}
	if slices.Min(byArm[:]) < 500 {
		t.Error(byArm)
	}
}

// Each order of a block of three comes about as often by coins that are as often.
func TestEachOrderOfABlockByItsCoins(t *testing.T) {
	orders := map[[3]int64]int{}
	for first := range int64(6) {
		for second := range int64(6) {
			a, order := trialOf(3, 3, 0, first, second), [3]int64{}
			for i := range order {
				order[i] = impl.Allocation(a, int64(i))
			}
			orders[order]++
		}
	}
	if len(orders) != 6 {
		t.Error(orders)
	}
	for order, often := range orders {
		if often != 6 {
			t.Error(order, often)
		}
	}
}

// Promise 19: each whole block has each arm as often.
func TestEachWholeBlockHasEachArmAsOften(t *testing.T) {
	coins := rand.New(rand.NewSource(168))
	eachTrial(func(arms, block int64) {
		for range 3 {
			a := randomTrial(coins)
			a.Arms, a.Block = arms, block
			counts := make([]int64, arms)
			for i := range int64(1000) {
				counts[impl.Allocation(a, i)]++
				whole := (i + 1) / block
				if (i+1)%block == 0 && (slices.Min(counts) != whole*block/arms || slices.Max(counts) != whole*block/arms) {
					t.Fatalf("Allocation(%v, ..): %v of the first %d", a, counts, i+1)
				}
			}
		}
	})
}

func TestBalanceOfFew(t *testing.T) {
	checkBalance(t, "nobody told", trialOf(2, 4, 0, 5, 1, 0, 3), 0, 0)
	checkBalance(t, "nobody told, five arms", trialOf(5, 20, 0), 0, 0, 0, 0, 0)
	checkBalance(t, "the given one", trialOf(2, 4, 3, 5, 1, 0, 3), 2, 1)
	checkBalance(t, "one told", trialOf(2, 4, 1, 5, 1, 0, 3), 1, 0)
	checkBalance(t, "two told", trialOf(2, 4, 2, 5, 1, 0, 3), 2, 0)
	checkBalance(t, "a whole block", trialOf(2, 4, 4, 5, 1, 0, 3), 2, 2)
	checkBalance(t, "one more than a block", trialOf(2, 4, 5, 5, 1, 0, 3), 3, 2)
	checkBalance(t, "without coins", trialOf(3, 3, 4), 1, 2, 1)
	checkBalance(t, "an arm that nobody is in", trialOf(3, 3, 2), 0, 1, 1)
	checkBalance(t, "blocks by coins of their own", trialOf(2, 2, 3, 0, 9, 1, 9), 2, 1)
}

func TestBalanceOfAll(t *testing.T) {
	checkBalance(t, "two arms", trialOf(2, 2, 1000, 5, 3), 500, 500)
	checkBalance(t, "four arms", trialOf(4, 20, 1000, 5, 3), 250, 250, 250, 250)
	checkBalance(t, "five arms", trialOf(5, 5, 1000, 5, 3), 200, 200, 200, 200, 200)
	checkBalance(t, "three arms, within a block", trialOf(3, 18, 1000, inPlace), 334, 333, 333)
	checkBalance(t, "three arms, one fewer", trialOf(3, 18, 999, inPlace), 333, 333, 333)
	checkBalance(t, "two arms, within a block", trialOf(2, 16, 1000, inPlace), 500, 500)
	checkBalance(t, "two arms, one fewer", trialOf(2, 16, 999, inPlace), 500, 499)
}

// Within a block, at its end and behind it, for each number that may be told.
func TestBalanceOfEachNumberTold(t *testing.T) {
	coins := rand.New(rand.NewSource(169))
	eachTrial(func(arms, block int64) {
		a := randomTrial(coins)
		a.Arms, a.Block = arms, block
		counts := make([]int64, arms)
		for told := range int64(1001) {
			a.Told = told
			if got := impl.Balance(a); !slices.Equal(got, counts) {
				t.Fatalf("Balance(%v) = %v, want %v", a, got, counts)
			}
			if told%block == 0 && slices.Min(counts) != slices.Max(counts) {
				t.Fatal(told, counts)
			}
			if told < 1000 {
				counts[wantedArm(a, told)]++
			}
		}
	})
}

func TestEnrol(t *testing.T) {
	b, arm := checkEnrol(t, "the given one", trialOf(2, 4, 3, 5, 1, 0, 3))
	if arm != 1 || !sameTrial(b, trialOf(2, 4, 4, 5, 1, 0, 3)) {
		t.Error(b, arm)
	}
	b, arm = checkEnrol(t, "nobody told", trialOf(3, 3, 0))
	if arm != 1 || !sameTrial(b, trialOf(3, 3, 1)) {
		t.Error(b, arm)
	}
	b, arm = checkEnrol(t, "all but one told", trialOf(2, 2, 999, 1, 0))
	if arm != 1 || b.Told != 1000 {
		t.Error(b, arm)
	}
	for _, a := range []impl.Trial{b, trialOf(2, 2, 1000), trialOf(5, 20, 1000, 4, 4)} {
		if c, arm := checkEnrol(t, "all told", a); arm != -1 || !sameTrial(c, impl.Trial{}) {
			t.Error(c, arm)
		}
	}
	checkEnrol(t, "too many told", trialOf(2, 2, 1001))
	checkEnrol(t, "fewer than nobody told", trialOf(2, 2, -1))
	checkEnrol(t, "no trial", impl.Trial{})
}

func TestEnrolOfManyTrials(t *testing.T) {
	coins := rand.New(rand.NewSource(170))
	refused := 0
	for range 5000 {
		a := randomTrial(coins)
		if coins.Intn(4) == 0 {
			spoilTrial(coins, &a)
		}
		if _, arm := checkEnrol(t, "one of many", a); arm == -1 {
			refused++
		}
	}
	if refused < 200 {
		t.Error(refused)
	}
}

// One after the other, all are told their arms, and no more.
func TestEnrolFromNobodyToAll(t *testing.T) {
	coins := rand.New(rand.NewSource(171))
	eachTrial(func(arms, block int64) {
		a := randomTrial(coins)
		a.Arms, a.Block, a.Told = arms, block, 0
		first, counts := a, make([]int64, arms)
		for told := range int64(1000) {
			next, arm := impl.Enrol(a)
			if arm != wantedArm(first, told) || next.Told != told+1 {
				t.Fatalf("Enrol(%v) = %v, %d", a, next, arm)
			}
			counts[arm]++
			a = next
		}
		if !slices.Equal(impl.Balance(a), counts) || !slices.Equal(a.Coins, first.Coins) {
			t.Fatal(a, counts)
		}
		if b, arm := impl.Enrol(a); arm != -1 || !sameTrial(b, impl.Trial{}) {
			t.Fatal(b, arm)
		}
	})
}

// Nothing of one call is kept for another: neither by the same coins with other numbers in them nor by another trial between.
func TestTrialsByOtherCoins(t *testing.T) {
	coins := rand.New(rand.NewSource(172))
	a := trialOf(4, 20, 1000, make([]int64, 50)...)
	for range 300 {
		for at := range a.Coins {
			a.Coins[at] = coins.Int63n(1000)
		}
		other := randomTrial(coins)
		for range 3 {
			i := coins.Int63n(1000)
			checkArm(t, "by the coins as they are now", a, i, wantedArm(a, i))
			checkArm(t, "of another one", other, i, wantedArm(other, i))
		}
		a.Told = coins.Int63n(1001)
		checkBalance(t, "by the coins as they are now", a, wantedBalance(a)...)
		checkBalance(t, "of another one", other, wantedBalance(other)...)
		checkEnrol(t, "by the coins as they are now", a)
	}
}

func TestTrialsSideBySide(t *testing.T) {
	coins := rand.New(rand.NewSource(173))
	answers := make(chan bool)
	shared := trialOf(3, 18, 777, 5, 0, 8, 123456, 3)
	for range 30 {
		own := randomTrial(coins)
		go func() {
			ok := true
			for _, a := range []impl.Trial{shared, own, shared} {
				ok = ok && slices.Equal(impl.Balance(a), wantedBalance(a))
				for i := range int64(100) {
					ok = ok && impl.Allocation(a, i) == wantedArm(a, i)
				}
			}
			answers <- ok
		}()
	}
	for range 30 {
		if !<-answers {
			t.Error("an answer is another one side by side")
		}
	}
}

func TestTrialsStayAndAnswersAreNewMemory(t *testing.T) {
	for _, told := range []int64{-1, 0, 3, 999, 1000, 1001} {
		room := []int64{5, 1, 0, 3, 77, -78}
		before := slices.Clone(room)
		a := trialOf(2, 4, told, room[:4]...)
		one, _ := impl.Enrol(a)
		other, _ := impl.Enrol(a)
		counts, otherCounts := impl.Balance(a), impl.Balance(a)
		keptCoins, keptCounts := slices.Clone(one.Coins), slices.Clone(counts)
		clear(other.Coins[:cap(other.Coins)])
		clear(otherCounts[:cap(otherCounts)])
		impl.Allocation(a, 3)
		impl.TrialOk(a)
		if !slices.Equal(room, before) || !sameTrial(a, trialOf(2, 4, told, before[:4]...)) {
			t.Fatal("an argument was written into, or shares memory with an answer")
		}
		if !slices.Equal(one.Coins, keptCoins) || !slices.Equal(counts, keptCounts) {
			t.Fatal("two answers share memory")
		}
	}
}
