package tests

import (
	"fmt"
	"math"
	"math/rand"
	"slices"
	"testing"

	"loop.example/g00060/impl"
)

func trialOf(arms, block, told int64, coins ...int64) impl.Trial {
	return impl.Trial{Arms: arms, Block: block, Coins: coins, Told: told}
}

func sameTrial(a, b impl.Trial) bool {
	return a.Arms == b.Arms && a.Block == b.Block && a.Told == b.Told && slices.Equal(a.Coins, b.Coins)
}

// rightBlocks are the blocks of each number of arms.
func rightBlocks() map[int64][]int64 {
	return map[int64][]int64{2: {2, 4, 6, 8, 10, 12, 14, 16, 18, 20}, 3: {3, 6, 9, 12, 15, 18}, 4: {4, 8, 12, 16, 20}, 5: {5, 10, 15, 20}}
}

func isTrial(a impl.Trial) bool {
	below := func(coin int64) bool { return coin < 0 }
	return slices.Contains(rightBlocks()[a.Arms], a.Block) && len(a.Coins) <= 4096 && !slices.ContainsFunc(a.Coins, below) && within(a.Told, 0, 1000)
}

// eachTrial goes through all arms and blocks.
func eachTrial(do func(arms, block int64)) {
	for arms, blocks := range rightBlocks() {
		for _, block := range blocks {
			do(arms, block)
		}
	}
}

func checkTrialOk(t *testing.T, what string, a impl.Trial, want bool) {
	t.Helper()
	if got := impl.TrialOk(a); got != want {
		t.Errorf("%s: TrialOk(%.300s) = %v", what, fmt.Sprint(a), got)
	}
	if isTrial(a) != want {
		t.Errorf("%s: the test itself tells %v, want %v", what, !want, want)
	}
	if !want {
		checkNoTrial(t, what, a)
	}
}

// checkNoTrial asks for the answers that are told of what is no trial.
func checkNoTrial(t *testing.T, what string, a impl.Trial) {
	t.Helper()
	for _, i := range []int64{-1, 0, 1, a.Told, 999, 1000} {
		if arm := impl.Allocation(a, i); arm != -1 {
			t.Errorf("%s: Allocation(%.300s, %d) = %d", what, fmt.Sprint(a), i, arm)
		}
	}
	if b, arm := impl.Enrol(a); arm != -1 || !sameTrial(b, impl.Trial{}) {
		t.Errorf("%s: Enrol(%.300s) = %.300s, %d", what, fmt.Sprint(a), fmt.Sprint(b), arm)
	}
	if counts := impl.Balance(a); len(counts) != 0 {
		t.Errorf("%s: Balance(%.300s) = %v", what, fmt.Sprint(a), counts)
	}
}

func TestTrialConstants(t *testing.T) {
	if impl.MaxBlock != 20 || impl.MaxTold != 1000 {
		t.Error(impl.MaxBlock, impl.MaxTold)
	}
}

func TestTrialsAsTold(t *testing.T) {
	checkTrialOk(t, "the given one", trialOf(2, 4, 3, 5, 1, 0, 3), true)
	checkTrialOk(t, "no coin", trialOf(3, 6, 0), true)
	checkTrialOk(t, "no coin, but not nil", trialOf(3, 6, 0, []int64{}...), true)
	checkTrialOk(t, "the least", trialOf(2, 2, 0), true)
	checkTrialOk(t, "the greatest", trialOf(5, 20, 1000, slices.Repeat([]int64{math.MaxInt64}, 4096)...), true)
	checkTrialOk(t, "the zero value", impl.Trial{}, false)
}

func TestArmsAndBlocks(t *testing.T) {
	ends := []int64{math.MinInt64, math.MinInt64 + 1, -20, -6, -4, -2, math.MaxInt32, math.MaxInt64 - 1, math.MaxInt64}
	arms := append(slices.Clone(ends), -1, 0, 1, 2, 3, 4, 5, 6, 7, 10, 20, 21)
	blocks := slices.Clone(ends)
	for block := int64(-10); block <= 45; block++ {
		blocks = append(blocks, block)
	}
	right := 0
	for _, a := range arms {
		for _, block := range blocks {
			want := slices.Contains(rightBlocks()[a], block)
			checkTrialOk(t, "arms and block", trialOf(a, block, 7, 1, 2, 3), want)
			if want {
				right++
			}
		}
	}
	if right != 25 {
		t.Error(right)
	}
}

func TestArmsAtTheirEnds(t *testing.T) {
	for arms, want := range map[int64]bool{1: false, 2: true, 5: true, 6: false} {
		for times := int64(1); arms*times <= 20; times++ {
			checkTrialOk(t, "each multiple", trialOf(arms, arms*times, 0), want)
		}
	}
}

func TestBlocksAtTheirEnds(t *testing.T) {
	for _, arms := range []int64{2, 3, 4, 5} {
		last := 20 / arms * arms
		checkTrialOk(t, "0", trialOf(arms, 0, 0), false)
		checkTrialOk(t, "below 0", trialOf(arms, -arms, 0), false)
		checkTrialOk(t, "as many as arms", trialOf(arms, arms, 0), true)
		checkTrialOk(t, "one fewer", trialOf(arms, arms-1, 0), false)
		checkTrialOk(t, "one more", trialOf(arms, arms+1, 0), false)
		checkTrialOk(t, "the greatest multiple", trialOf(arms, last, 0), true)
		checkTrialOk(t, "the next multiple", trialOf(arms, last+arms, 0), false)
		checkTrialOk(t, "one more than MaxBlock", trialOf(arms, 21, 0), false)
	}
	checkTrialOk(t, "MaxBlock that is no multiple", trialOf(3, 20, 0), false)
}

func TestCoinsOfTrials(t *testing.T) {
	for coin, want := range map[int64]bool{math.MinInt64: false, -2: false, -1: false, 0: true, 1: true, math.MaxInt64: true} {
		checkTrialOk(t, "one coin", trialOf(2, 4, 3, coin), want)
		checkTrialOk(t, "the first", trialOf(2, 4, 3, coin, 5, 6), want)
		checkTrialOk(t, "the last", trialOf(2, 4, 3, 5, 6, coin), want)
		// What nobody's place hangs on is asked, too.
		many := make([]int64, 4096)
		many[4095] = coin
		checkTrialOk(t, "the last of MaxList", trialOf(2, 4, 3, many...), want)
	}
	for count, want := range map[int]bool{1: true, 4095: true, 4096: true, 4097: false, 4098: false, 100000: false} {
		checkTrialOk(t, "so many coins", trialOf(2, 4, 3, make([]int64, count)...), want)
	}
}

func TestToldOfTrials(t *testing.T) {
	for told, want := range map[int64]bool{math.MinInt64: false, -2: false, -1: false, 0: true, 1: true, 999: true, 1000: true, 1001: false, 1002: false, math.MaxInt64: false} {
		eachTrial(func(arms, block int64) {
			checkTrialOk(t, "told", trialOf(arms, block, told, 3, 1), want)
		})
	}
}

func randomTrial(coins *rand.Rand) impl.Trial {
	arms := 2 + coins.Int63n(4)
	blocks := rightBlocks()[arms]
	a := trialOf(arms, blocks[coins.Intn(len(blocks))], coins.Int63n(1001))
	most := []int64{1, 20, 1000000, math.MaxInt64}[coins.Intn(4)]
	for range coins.Intn([]int{1, 3, 30, 1500}[coins.Intn(4)]) {
		a.Coins = append(a.Coins, coins.Int63n(most))
	}
	return a
}

// spoilTrial may leave it a trial.
func spoilTrial(coins *rand.Rand, a *impl.Trial) {
	switch coins.Intn(5) {
	case 0:
		a.Arms = coins.Int63n(9) - 1
	case 1:
		a.Block = coins.Int63n(25) - 2
	case 2:
		a.Told = []int64{-1, 0, 1000, 1001}[coins.Intn(4)]
	case 3:
		if len(a.Coins) > 0 {
			a.Coins[coins.Intn(len(a.Coins))] = coins.Int63n(3) - 1
		}
	case 4:
		a.Coins = make([]int64, 4095+coins.Intn(3))
	}
}

func TestManyTrials(t *testing.T) {
	coins := rand.New(rand.NewSource(164))
	wrong := 0
	for range 5000 {
		a := randomTrial(coins)
		checkTrialOk(t, "a right one", a, true)
		spoilTrial(coins, &a)
		checkTrialOk(t, "a spoilt one", a, isTrial(a))
		if !isTrial(a) {
			wrong++
		}
	}
	if wrong < 1000 {
		t.Error(wrong)
	}
}
