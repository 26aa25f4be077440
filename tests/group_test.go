package tests

import (
	"math"
	"math/rand"
	"slices"
	"strings"
	"testing"

	"loop.example/g00060/impl"
)

// groupNames stand at their groups' numbers.
var groupNames = []string{"O-", "A-", "B-", "AB-", "O+", "A+", "B+", "AB+"}

// redTo tells by names who may have red cells of a group.
var redTo = map[string]string{
	"O-": "O- A- B- AB- O+ A+ B+ AB+", "A-": "A- AB- A+ AB+", "B-": "B- AB- B+ AB+", "AB-": "AB- AB+",
	"O+": "O+ A+ B+ AB+", "A+": "A+ AB+", "B+": "B+ AB+", "AB+": "AB+",
}

// plasmaTo tells by names, without Rh, who may have plasma of a group.
var plasmaTo = map[string]string{"O": "O", "A": "O A", "B": "O B", "AB": "O A B AB"}

func withoutRh(group string) string { return strings.TrimRight(group, "+-") }

func wantedRed(unit, person int64) bool {
	if !within(unit, 0, 7) || !within(person, 0, 7) {
		return false
	}
	return slices.Contains(strings.Fields(redTo[groupNames[unit]]), groupNames[person])
}

func wantedPlasma(unit, person int64) bool {
	if !within(unit, 0, 7) || !within(person, 0, 7) {
		return false
	}
	return slices.Contains(strings.Fields(plasmaTo[withoutRh(groupNames[unit])]), withoutRh(groupNames[person]))
}

func TestBloodConstants(t *testing.T) {
	got := []int64{impl.MaxUnit, impl.MaxUnits, impl.MaxPick, impl.UtFree, impl.UtKept, impl.UtGiven, impl.UtGone,
		impl.BlKeep, impl.BlBack, impl.BlGive, impl.BlThrow, impl.BlBad, impl.BlDeed, impl.BlNone, impl.BlState, impl.BlOld, impl.BlUnfit}
	if !slices.Equal(got, []int64{1000000, 300, 100, 1, 2, 3, 4, 1, 2, 3, 4, 1, 2, 3, 4, 5, 6}) {
		t.Fatal(got)
	}
}

func TestAllPairsOfGroups(t *testing.T) {
	red, plasma := 0, 0
	for unit := int64(-20); unit <= 40; unit++ {
		for person := int64(-20); person <= 40; person++ {
			if got := impl.RedFits(unit, person); got != wantedRed(unit, person) {
				t.Errorf("RedFits(%d, %d) = %v", unit, person, got)
			} else if got {
				red++
			}
			if got := impl.PlasmaFits(unit, person); got != wantedPlasma(unit, person) {
				t.Errorf("PlasmaFits(%d, %d) = %v", unit, person, got)
			} else if got {
				plasma++
			}
		}
	}
	if red != 27 || plasma != 36 {
		t.Error(red, plasma)
	}
}

func TestWhatIsNoGroup(t *testing.T) {
	for _, none := range []int64{math.MinInt64, math.MinInt64 + 7, -8, -7, -4, -1, 8, 9, 15, 16, 1 << 32, 1<<32 + 7, math.MaxInt64} {
		for group := int64(0); group <= 7; group++ {
			if impl.RedFits(none, group) || impl.RedFits(group, none) || impl.RedFits(none, none) {
				t.Error("red cells", none, group)
			}
			if impl.PlasmaFits(none, group) || impl.PlasmaFits(group, none) || impl.PlasmaFits(none, none) {
				t.Error("plasma", none, group)
			}
		}
	}
}

// What groups are to each other: to oneself it fits, O negative cells and AB plasma fit all, and red cells fit on by way of another.
func TestGroupsAmongThemselves(t *testing.T) {
	for a := int64(0); a <= 7; a++ {
		if !impl.RedFits(a, a) || !impl.PlasmaFits(a, a) || !impl.RedFits(0, a) || !impl.RedFits(a, 7) {
			t.Error(a)
		}
		if !impl.PlasmaFits(3, a) || !impl.PlasmaFits(7, a) || !impl.PlasmaFits(a, 0) || !impl.PlasmaFits(a, 4) {
			t.Error(a)
		}
		for b := int64(0); b <= 7; b++ {
			if a != b && impl.RedFits(a, b) && impl.RedFits(b, a) {
				t.Error(a, b)
			}
			for _, rh := range []int64{0, 4} {
				if impl.PlasmaFits(a, b) != impl.PlasmaFits(a^rh, b) || impl.PlasmaFits(a, b) != impl.PlasmaFits(a, b^rh) {
					t.Error("Rh matters to plasma of", a, b)
				}
			}
			for c := int64(0); c <= 7; c++ {
				if impl.RedFits(a, b) && impl.RedFits(b, c) && !impl.RedFits(a, c) {
					t.Error(a, b, c)
				}
			}
		}
	}
}

func needOf(person, group int64, against ...int64) impl.Need {
	return impl.Need{Person: person, Group: group, Against: against}
}

func unitOf(id, group, until int64, antigens ...int64) impl.Unit {
	return impl.Unit{Id: id, Group: group, Antigens: antigens, Until: until, State: 1, For: -1}
}

func unitAs(id int64, change func(u *impl.Unit)) impl.Unit {
	u := unitOf(id, 0, 100)
	change(&u)
	return u
}

// areAntigens goes by the document's words: antigens from 0 to 19, and a list that rises has no two that are alike.
func areAntigens(list []int64) bool {
	for at, antigen := range list {
		if !within(antigen, 0, 19) || slices.Contains(list[:at], antigen) {
			return false
		}
	}
	return slices.IsSorted(list)
}

func isNeed(n impl.Need) bool {
	return within(n.Person, 0, 999) && within(n.Group, 0, 7) && areAntigens(n.Against)
}

func isUnit(u impl.Unit) bool {
	states := map[int64]bool{1: u.For == -1, 2: within(u.For, 0, 999), 3: within(u.For, 0, 999), 4: u.For == -1}
	return within(u.Id, 1, 1000000) && within(u.Group, 0, 7) && areAntigens(u.Antigens) && within(u.Until, 0, 10000000) && states[u.State]
}

func wantedFits(u impl.Unit, n impl.Need) bool {
	for _, antigen := range u.Antigens {
		if slices.Contains(n.Against, antigen) {
			return false
		}
	}
	return isUnit(u) && isNeed(n) && wantedRed(u.Group, n.Group)
}

func checkFits(t *testing.T, what string, u impl.Unit, n impl.Need, want bool) {
	t.Helper()
	if got := impl.Fits(u, n); got != want {
		t.Errorf("%s: Fits(%+v, %+v) = %v, want %v", what, u, n, got, want)
	}
	if wantedFits(u, n) != want {
		t.Errorf("%s: %+v for %+v is told wrongly by the test", what, u, n)
	}
}

func TestFitsByGroups(t *testing.T) {
	for unit := int64(-1); unit <= 8; unit++ {
		for person := int64(-1); person <= 8; person++ {
			checkFits(t, "groups", unitOf(1, unit, 100), needOf(9, person), wantedRed(unit, person))
			checkFits(t, "groups, and antigens that do not meet", unitOf(1, unit, 100, 1, 2), needOf(9, person, 3, 4), wantedRed(unit, person))
			checkFits(t, "groups, and antigens that meet", unitOf(1, unit, 100, 1, 3), needOf(9, person, 3, 4), false)
		}
	}
}

func TestFitsByAntigens(t *testing.T) {
	for _, r := range []struct {
		has, against []int64
		fits         bool
	}{
		{nil, nil, true}, {[]int64{}, []int64{}, true}, {[]int64{3}, nil, true}, {nil, []int64{3}, true}, {numbersTo(20), nil, true}, {nil, numbersTo(20), true},
		{[]int64{3}, []int64{3}, false}, {[]int64{0}, []int64{0}, false}, {[]int64{19}, []int64{19}, false}, {[]int64{0}, []int64{19}, true}, {[]int64{19}, []int64{0}, true},
		{[]int64{3}, []int64{3, 8, 12}, false}, {[]int64{8}, []int64{3, 8, 12}, false}, {[]int64{12}, []int64{3, 8, 12}, false},
		{[]int64{2}, []int64{3, 8, 12}, true}, {[]int64{4}, []int64{3, 8, 12}, true}, {[]int64{11}, []int64{3, 8, 12}, true}, {[]int64{13}, []int64{3, 8, 12}, true},
		{[]int64{3, 8, 12}, []int64{3}, false}, {[]int64{3, 8, 12}, []int64{8}, false}, {[]int64{3, 8, 12}, []int64{12}, false}, {[]int64{3, 8, 12}, []int64{2, 4, 7, 9, 11, 13}, true},
		{[]int64{1, 2, 9}, []int64{9, 10}, false}, {[]int64{9, 10}, []int64{1, 2, 9}, false}, {numbersTo(20), numbersTo(20), false}, {numbersTo(10), peopleTo(10, 10), true}, {numbersTo(11), peopleTo(10, 10), false},
	} {
		checkFits(t, "antigens", unitOf(1, 0, 100, r.has...), needOf(9, 7, r.against...), r.fits)
		checkFits(t, "antigens, other groups", unitOf(1, 1, 100, r.has...), needOf(9, 6, r.against...), false)
	}
	for has := int64(0); has <= 19; has++ {
		for against := int64(0); against <= 19; against++ {
			checkFits(t, "one of each", unitOf(1, 2, 100, has), needOf(9, 2, against), has != against)
		}
	}
}

func TestFitsWhatIsNotAsTold(t *testing.T) {
	for _, c := range unitCases() {
		checkFits(t, c.what, unitAs(50, c.change), needOf(9, 7), c.right)
	}
	for _, c := range needCases() {
		checkFits(t, c.what, unitOf(50, 0, 100), needAs(c.change), c.right)
	}
	checkFits(t, "nothing of either", impl.Unit{}, impl.Need{}, false)
}

// Whether a unit fits is not asked of its State, of whom it is for, nor of its Until.
func TestFitsInEachState(t *testing.T) {
	for _, state := range []impl.Unit{{State: 1, For: -1}, {State: 2, For: 9}, {State: 2, For: 8}, {State: 3, For: 9}, {State: 3, For: 8}, {State: 4, For: -1}} {
		for _, until := range []int64{0, 100, 10000000} {
			u := impl.Unit{Id: 5, Group: 1, Antigens: []int64{4}, Until: until, State: state.State, For: state.For}
			checkFits(t, "a state", u, needOf(9, 5, 3), true)
			checkFits(t, "a state", u, needOf(9, 5, 4), false)
			checkFits(t, "a state", u, needOf(9, 6, 3), false)
		}
	}
}

func randomAntigens(coins *rand.Rand, bound int64) []int64 {
	var list []int64
	for antigen := range bound {
		if coins.Intn(4) == 0 {
			list = append(list, antigen)
		}
	}
	return list
}

// Promise 15: what Fits is compatible.
func TestWhatFitsIsCompatible(t *testing.T) {
	coins := rand.New(rand.NewSource(120))
	answers := map[bool]int{}
	for range 30000 {
		u, n := unitOf(1+coins.Int63n(9), coins.Int63n(8), coins.Int63n(9), randomAntigens(coins, 20)...), needOf(coins.Int63n(9), coins.Int63n(8), randomAntigens(coins, 20)...)
		if coins.Intn(2) == 0 {
			n.Against = randomAntigens(coins, 4)
		}
		if coins.Intn(20) == 0 {
			slices.Reverse(u.Antigens)
		}
		if coins.Intn(20) == 0 {
			slices.Reverse(n.Against)
		}
		fits := impl.Fits(u, n)
		if fits != wantedFits(u, n) {
			t.Fatalf("Fits(%+v, %+v) = %v", u, n, fits)
		}
		answers[fits]++
		if !fits {
			continue
		}
		for bit := int64(1); bit <= 4; bit *= 2 {
			if u.Group/bit%2 == 1 && n.Group/bit%2 == 0 {
				t.Fatalf("%+v fits %+v", u, n)
			}
		}
		for _, antigen := range u.Antigens {
			if slices.Contains(n.Against, antigen) {
				t.Fatalf("%+v fits %+v", u, n)
			}
		}
	}
	if answers[true] < 1000 || answers[false] < 1000 {
		t.Error(answers)
	}
}
