package tests

import (
	"math"
	"math/rand"
	"slices"
	"testing"

	"loop.example/g00060/impl"
)

// wantedTrusted looks back for the last fault, and on from there for two noughts side by side.
func wantedTrusted(codes []int64, at int64) bool {
	if !within(at, 0, int64(len(codes))-1) || len(codes) > 2000 {
		return false
	}
	last := at
	for last >= 0 && !slices.Contains([]int64{1, 2, 3, 4, 5}, codes[last]) {
		last--
	}
	if last < 0 {
		return true
	}
	for place := last + 1; place < at; place++ {
		if codes[place] == 0 && codes[place+1] == 0 {
			return true
		}
	}
	return false
}

// checkTrusted takes what is wanted for each place.
func checkTrusted(t *testing.T, what string, codes []int64, want ...bool) {
	t.Helper()
	for at, trusted := range want {
		if got := impl.Trusted(codes, int64(at)); got != trusted {
			t.Errorf("%s: Trusted(%v, %d) = %v", what, codes, at, got)
		}
		if told := wantedTrusted(codes, int64(at)); told != trusted {
			t.Errorf("%s: the test itself tells %v at %d", what, told, at)
		}
	}
	for _, at := range []int64{math.MinInt64, -2, -1, int64(len(codes)), int64(len(codes)) + 1, math.MaxInt64} {
		if impl.Trusted(codes, at) {
			t.Errorf("%s: Trusted(%v, %d)", what, codes, at)
		}
	}
}

func TestTrustedWithoutFault(t *testing.T) {
	checkTrusted(t, "none", nil)
	checkTrusted(t, "none, but not nil", []int64{})
	checkTrusted(t, "one nought", []int64{0}, true)
	checkTrusted(t, "warnings", []int64{6, 0, 6, 6}, true, true, true, true)
	checkTrusted(t, "codes that are none", []int64{7, -1, math.MinInt64, math.MaxInt64, 100}, true, true, true, true, true)
}

func TestTrustedBehindEachFault(t *testing.T) {
	for fault := int64(1); fault <= 5; fault++ {
		checkTrusted(t, "one nought", []int64{0, fault, 0}, true, false, false)
		checkTrusted(t, "two noughts", []int64{0, fault, 0, 0}, true, false, false, true)
		checkTrusted(t, "two noughts, and on", []int64{fault, 0, 0, 0, 6, 0, 7}, false, false, true, true, true, true, true)
		checkTrusted(t, "two noughts ahead of it", []int64{0, 0, fault, 0}, true, true, false, false)
		checkTrusted(t, "a fault more behind two noughts", []int64{1, 0, 0, fault, 0, 6, 0, 0}, false, false, true, false, false, false, false, true)
		checkTrusted(t, "a fault between two noughts", []int64{0, fault, 0, fault, 0, fault}, true, false, false, false, false, false)
		checkTrusted(t, "two faults", []int64{fault, 6 - fault, 0, 0}, false, false, false, true)
		checkTrusted(t, "first of all", []int64{fault}, false)
	}
}

func TestNoughtsThatArePartedAreNotTwo(t *testing.T) {
	for _, other := range []int64{6, 7, -1, 100, math.MinInt64, math.MaxInt64} {
		checkTrusted(t, "parted", []int64{3, 0, other, 0, other, 0}, false, false, false, false, false, false)
		checkTrusted(t, "behind it", []int64{3, 0, other, 0, 0, other}, false, false, false, false, true, true)
		checkTrusted(t, "the other code alone", []int64{3, other, other, other}, false, false, false, false)
		checkTrusted(t, "the other code first", []int64{3, other, 0, 0}, false, false, false, true)
	}
}

// What stands behind the place is not asked.
func TestTrustedUpToThePlace(t *testing.T) {
	checkTrusted(t, "a fault behind", []int64{0, 0, 4}, true, true, false)
	checkTrusted(t, "noughts behind", []int64{4, 0, 0}, false, false, true)
}

func TestHowManyCodes(t *testing.T) {
	codes := make([]int64, 2002)
	for _, count := range []int64{1999, 2000} {
		if !impl.Trusted(codes[:count], 0) || !impl.Trusted(codes[:count], count-1) || impl.Trusted(codes[:count], count) {
			t.Error(count)
		}
	}
	for _, at := range []int64{-1, 0, 1, 1999, 2000, 2001, 2002} {
		if impl.Trusted(codes[:2001], at) || impl.Trusted(codes, at) {
			t.Error("too many", at)
		}
	}
	codes[1997] = 5
	for at, want := range map[int64]bool{1996: true, 1997: false, 1998: false, 1999: true} {
		if impl.Trusted(codes[:2000], at) != want {
			t.Error(at)
		}
	}
}

func TestTrustedAsTold(t *testing.T) {
	coins := rand.New(rand.NewSource(113))
	seen := map[bool]int{}
	for range 4000 {
		codes := make([]int64, coins.Intn(14))
		for at := range codes {
			codes[at] = []int64{0, 0, 0, 6, coins.Int63n(9) - 1}[coins.Intn(5)]
		}
		before := slices.Clone(codes)
		for at := int64(-2); at < int64(len(codes))+2; at++ {
			want := wantedTrusted(codes, at)
			if got := impl.Trusted(codes, at); got != want {
				t.Fatalf("Trusted(%v, %d) = %v", codes, at, got)
			}
			seen[want]++
		}
		if !slices.Equal(codes, before) {
			t.Fatal(codes, before)
		}
	}
	if seen[true] < 5000 || seen[false] < 5000 {
		t.Error(seen)
	}
}

// From the controls on: a fault takes the trust away, and two that are well bring it back.
func TestTrustInControls(t *testing.T) {
	codes := impl.Control(100, 10, []int64{100, 131, 99, 121, 101, 98, 121})
	if !slices.Equal(codes, []int64{0, 1, 0, 6, 0, 0, 6}) {
		t.Fatal(codes)
	}
	checkTrusted(t, "controls", codes, true, false, false, false, false, true, true)
}
