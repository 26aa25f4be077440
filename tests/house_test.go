package tests

import (
	"math"
	"math/rand"
	"slices"
	"testing"

	"loop.example/g00060/impl"
)

// The tests of beds hold the program against the document's words, each pair of beds and of stays by itself.

func within(n, low, high int64) bool { return n >= low && n <= high }

func kindServes(kind, need int64) bool { return kind == need || kind == 2 && need == 1 }

func isHouse(h impl.House) bool {
	if len(h.Beds) > 200 || len(h.Stays) > 1000 {
		return false
	}
	for i, bed := range h.Beds {
		if !within(bed.Room, 0, 999) || !within(bed.Kind, 1, 3) {
			return false
		}
		for j, other := range h.Beds {
			if i != j && bed.Kind == 3 && other.Room == bed.Room {
				return false
			}
		}
	}
	for i, stay := range h.Stays {
		if !within(stay.Person, 0, 999) || !within(stay.Sex, 1, 2) || !within(stay.Need, 1, 3) || !within(stay.Bed, 0, int64(len(h.Beds))-1) {
			return false
		}
		if !within(stay.From, 0, 10000000) || stay.To != -1 && !within(stay.To, stay.From, 10000000) {
			return false
		}
		if i > 0 && stay.From < h.Stays[i-1].From {
			return false
		}
	}
	return thereIsRight(h, stillIn(h))
}

func stillIn(h impl.House) []impl.Stay {
	var there []impl.Stay
	for _, stay := range h.Stays {
		if stay.To == -1 {
			there = append(there, stay)
		}
	}
	return there
}

func thereIsRight(h impl.House, there []impl.Stay) bool {
	for i, a := range there {
		if !kindServes(h.Beds[a.Bed].Kind, a.Need) {
			return false
		}
		for _, b := range there[:i] {
			if a.Bed == b.Bed || a.Person == b.Person || h.Beds[a.Bed].Room == h.Beds[b.Bed].Room && a.Sex != b.Sex {
				return false
			}
		}
	}
	return true
}

func sameHouse(g, h impl.House) bool {
	return slices.Equal(g.Beds, h.Beds) && slices.Equal(g.Stays, h.Stays)
}

func anewHouse(h impl.House) impl.House {
	return impl.House{Beds: slices.Clone(h.Beds), Stays: slices.Clone(h.Stays)}
}

// bedsIn has count plain beds, two in a room.
func bedsIn(count int) []impl.Bed {
	var beds []impl.Bed
	for i := range int64(count) {
		beds = append(beds, impl.Bed{Room: i / 2, Kind: 1})
	}
	return beds
}

// endedStays has count stays of one person in bed 0, minute by minute, all of them ended.
func endedStays(count int) []impl.Stay {
	var stays []impl.Stay
	for i := range int64(count) {
		stays = append(stays, impl.Stay{Person: 7, Sex: 1, Need: 1, From: i, To: i + 1})
	}
	return stays
}

// aWard has a room with a plain and two watched beds, one with a plain one, and one for who must be alone.
func aWard() impl.House {
	return impl.House{
		Beds: []impl.Bed{{Room: 1, Kind: 1}, {Room: 1, Kind: 2}, {Room: 1, Kind: 2}, {Room: 2, Kind: 1}, {Room: 3, Kind: 3}},
		Stays: []impl.Stay{
			{Person: 10, Sex: 1, Need: 1, Bed: 0, From: 5, To: 9},
			{Person: 11, Sex: 2, Need: 2, Bed: 1, From: 5, To: -1},
			{Person: 10, Sex: 1, Need: 3, Bed: 4, From: 9, To: -1},
			{Person: 12, Sex: 2, Need: 1, Bed: 2, From: 20, To: -1},
		},
	}
}

// oneStay is the ward's beds with this stay alone.
func oneStay(stay impl.Stay) impl.House {
	return impl.House{Beds: aWard().Beds, Stays: []impl.Stay{stay}}
}

func oneBed(bed impl.Bed) impl.House { return impl.House{Beds: []impl.Bed{bed}} }

type namedHouse struct {
	name  string
	house impl.House
}

func someHouses() []namedHouse {
	plain := impl.Stay{Person: 10, Sex: 1, Need: 1, Bed: 3, From: 5, To: -1}
	with := func(change func(*impl.Stay)) impl.House {
		stay := plain
		change(&stay)
		return oneStay(stay)
	}
	list := []namedHouse{
		{"zero", impl.House{}},
		{"empty lists", impl.House{Beds: []impl.Bed{}, Stays: []impl.Stay{}}},
		{"ward", aWard()},
		{"one stay", oneStay(plain)},
		{"room 0", oneBed(impl.Bed{Room: 0, Kind: 1})},
		{"room 999", oneBed(impl.Bed{Room: 999, Kind: 1})},
		{"BdPlain", oneBed(impl.Bed{Room: 5, Kind: impl.BdPlain})},
		{"BdWatched", oneBed(impl.Bed{Room: 5, Kind: impl.BdWatched})},
		{"BdAlone", oneBed(impl.Bed{Room: 5, Kind: impl.BdAlone})},
		{"two alone in rooms of their own", impl.House{Beds: []impl.Bed{{Room: 5, Kind: 3}, {Room: 6, Kind: 3}}}},
		{"person 0", with(func(s *impl.Stay) { s.Person = 0 })},
		{"person 999", with(func(s *impl.Stay) { s.Person = 999 })},
		{"sex 2", with(func(s *impl.Stay) { s.Sex = 2 })},
		{"first bed", with(func(s *impl.Stay) { s.Bed = 0 })},
		{"last bed", with(func(s *impl.Stay) { s.Bed, s.Need = 4, 3 })},
		{"from the first time on", with(func(s *impl.Stay) { s.From = 0 })},
		{"from the last time on", with(func(s *impl.Stay) { s.From = 10000000 })},
		{"to the first time", with(func(s *impl.Stay) { s.From, s.To = 0, 0 })},
		{"to the last time", with(func(s *impl.Stay) { s.To = 10000000 })},
		{"To the same as From", with(func(s *impl.Stay) { s.To = 5 })},
		{"to one behind From", with(func(s *impl.Stay) { s.To = 6 })},
		{"200 beds", impl.House{Beds: bedsIn(200)}},
		{"200 beds and somebody in the last one", impl.House{Beds: bedsIn(200), Stays: []impl.Stay{{Person: 1, Sex: 1, Need: 1, Bed: 199, To: -1}}}},
		{"1000 stays", impl.House{Beds: bedsIn(1), Stays: endedStays(1000)}},
		{"999 stays", impl.House{Beds: bedsIn(1), Stays: endedStays(999)}},
		{"one bed, the first stay ended", impl.House{Beds: bedsIn(2), Stays: []impl.Stay{{Person: 1, Sex: 1, Need: 1, From: 2, To: 2}, {Person: 2, Sex: 1, Need: 1, From: 2, To: -1}}}},
		{"one bed, the second stay ended", impl.House{Beds: bedsIn(2), Stays: []impl.Stay{{Person: 1, Sex: 1, Need: 1, From: 2, To: -1}, {Person: 2, Sex: 1, Need: 1, From: 2, To: 3}}}},
		{"one bed, both stays ended at once", impl.House{Beds: bedsIn(2), Stays: []impl.Stay{{Person: 1, Sex: 1, Need: 1, From: 2, To: 9}, {Person: 2, Sex: 2, Need: 1, From: 2, To: 9}}}},
		{"one person, the first stay ended", impl.House{Beds: bedsIn(4), Stays: []impl.Stay{{Person: 1, Sex: 1, Need: 1, From: 2, To: 7}, {Person: 1, Sex: 1, Need: 1, Bed: 2, From: 4, To: -1}}}},
		{"one person, the second stay ended", impl.House{Beds: bedsIn(4), Stays: []impl.Stay{{Person: 1, Sex: 1, Need: 1, From: 2, To: -1}, {Person: 1, Sex: 1, Need: 1, Bed: 2, From: 4, To: 5}}}},
		{"one person of two sexes, one after the other", impl.House{Beds: bedsIn(4), Stays: []impl.Stay{{Person: 1, Sex: 1, Need: 1, From: 2, To: 3}, {Person: 1, Sex: 2, Need: 1, Bed: 2, From: 4, To: -1}}}},
		{"two of one sex in one room", impl.House{Beds: bedsIn(2), Stays: []impl.Stay{{Person: 1, Sex: 2, Need: 1, To: -1}, {Person: 2, Sex: 2, Need: 1, Bed: 1, To: -1}}}},
		{"two sexes in two rooms", impl.House{Beds: bedsIn(4), Stays: []impl.Stay{{Person: 1, Sex: 1, Need: 1, Bed: 1, To: -1}, {Person: 2, Sex: 2, Need: 1, Bed: 2, To: -1}}}},
		{"two sexes in one room, the first gone", impl.House{Beds: bedsIn(2), Stays: []impl.Stay{{Person: 1, Sex: 1, Need: 1, To: 0}, {Person: 2, Sex: 2, Need: 1, Bed: 1, To: -1}}}},
		{"two sexes in one room, the second gone", impl.House{Beds: bedsIn(2), Stays: []impl.Stay{{Person: 1, Sex: 1, Need: 1, To: -1}, {Person: 2, Sex: 2, Need: 1, Bed: 1, To: 10000000}}}},
		{"BdPlain in a watched bed", oneStay(impl.Stay{Sex: 1, Need: impl.BdPlain, Bed: 1, To: -1})},
		{"all stays of one minute", impl.House{Beds: bedsIn(4), Stays: []impl.Stay{{Person: 1, Sex: 1, Need: 1, From: 9, To: 9}, {Person: 1, Sex: 1, Need: 1, Bed: 1, From: 9, To: 9}, {Person: 1, Sex: 1, Need: 1, Bed: 2, From: 9, To: -1}}}},
	}
	for need := int64(1); need <= 3; need++ {
		for bed := range int64(5) {
			list = append(list, namedHouse{"any need in any bed, ended", oneStay(impl.Stay{Sex: 1, Need: need, Bed: bed, To: 4})})
		}
	}
	coins := rand.New(rand.NewSource(31))
	for range 40 {
		list = append(list, namedHouse{"walked", walkedHouse(coins, 2+coins.Intn(8), coins.Intn(40))})
	}
	return list
}

func noHouses() []namedHouse {
	plain := impl.Stay{Person: 10, Sex: 1, Need: 1, Bed: 3, From: 5, To: -1}
	with := func(change func(*impl.Stay)) impl.House {
		stay := plain
		change(&stay)
		return oneStay(stay)
	}
	list := []namedHouse{
		{"201 beds", impl.House{Beds: bedsIn(201)}},
		{"1001 stays", impl.House{Beds: bedsIn(1), Stays: endedStays(1001)}},
		{"far too many beds", impl.House{Beds: bedsIn(1900)}},
		{"alone, and a plain bed behind", impl.House{Beds: []impl.Bed{{Room: 5, Kind: 3}, {Room: 5, Kind: 1}}}},
		{"alone, and a plain bed ahead", impl.House{Beds: []impl.Bed{{Room: 5, Kind: 1}, {Room: 5, Kind: 3}}}},
		{"alone, and a watched bed far behind", impl.House{Beds: []impl.Bed{{Room: 5, Kind: 3}, {Room: 6, Kind: 1}, {Room: 6, Kind: 1}, {Room: 5, Kind: 2}}}},
		{"two alone in one room", impl.House{Beds: []impl.Bed{{Room: 5, Kind: 3}, {Room: 5, Kind: 3}}}},
		{"a stay without beds", impl.House{Stays: []impl.Stay{{Sex: 1, Need: 1, To: -1}}}},
		{"To one below From", with(func(s *impl.Stay) { s.To = 4 })},
		{"To 0 behind From 5", with(func(s *impl.Stay) { s.To = 0 })},
		{"From falls", impl.House{Beds: bedsIn(4), Stays: []impl.Stay{{Person: 1, Sex: 1, Need: 1, From: 9, To: 10}, {Person: 2, Sex: 1, Need: 1, From: 8, To: 10}}}},
		{"From falls at the last of three", impl.House{Beds: bedsIn(4), Stays: []impl.Stay{{Person: 1, Sex: 1, Need: 1, From: 1, To: 10}, {Person: 1, Sex: 1, Need: 1, From: 9, To: 10}, {Person: 2, Sex: 1, Need: 1, From: 8, To: -1}}}},
		{"two in one bed", impl.House{Beds: bedsIn(2), Stays: []impl.Stay{{Person: 1, Sex: 1, Need: 1, From: 2, To: -1}, {Person: 2, Sex: 1, Need: 1, From: 3, To: -1}}}},
		{"two far apart in one bed", impl.House{Beds: bedsIn(4), Stays: []impl.Stay{{Person: 1, Sex: 1, Need: 1, To: -1}, {Person: 3, Sex: 1, Need: 1, Bed: 2, To: -1}, {Person: 4, Sex: 1, Need: 1, To: 4}, {Person: 2, Sex: 1, Need: 1, To: -1}}}},
		{"one person in two beds", impl.House{Beds: bedsIn(4), Stays: []impl.Stay{{Person: 1, Sex: 1, Need: 1, From: 2, To: -1}, {Person: 1, Sex: 1, Need: 1, Bed: 2, From: 3, To: -1}}}},
		{"one person in two beds of one room", impl.House{Beds: bedsIn(2), Stays: []impl.Stay{{Person: 1, Sex: 1, Need: 1, From: 2, To: -1}, {Person: 1, Sex: 1, Need: 1, Bed: 1, From: 3, To: -1}}}},
		{"one person twice in one bed", impl.House{Beds: bedsIn(2), Stays: []impl.Stay{{Person: 1, Sex: 1, Need: 1, From: 2, To: -1}, {Person: 1, Sex: 1, Need: 1, From: 2, To: -1}}}},
		{"two sexes in one room", impl.House{Beds: bedsIn(2), Stays: []impl.Stay{{Person: 1, Sex: 1, Need: 1, To: -1}, {Person: 2, Sex: 2, Need: 1, Bed: 1, To: -1}}}},
		{"two sexes in one room, the other first", impl.House{Beds: bedsIn(2), Stays: []impl.Stay{{Person: 1, Sex: 2, Need: 1, To: -1}, {Person: 2, Sex: 1, Need: 1, Bed: 1, To: -1}}}},
		{"BdWatched in a plain bed", oneStay(impl.Stay{Sex: 1, Need: impl.BdWatched, Bed: 0, To: -1})},
		{"BdAlone in a plain bed", oneStay(impl.Stay{Sex: 1, Need: impl.BdAlone, Bed: 3, To: -1})},
		{"BdAlone in a watched bed", oneStay(impl.Stay{Sex: 1, Need: impl.BdAlone, Bed: 1, To: -1})},
		{"BdPlain in a bed alone", oneStay(impl.Stay{Sex: 1, Need: impl.BdPlain, Bed: 4, To: -1})},
		{"BdWatched in a bed alone", oneStay(impl.Stay{Sex: 1, Need: impl.BdWatched, Bed: 4, To: -1})},
	}
	for _, n := range []int64{math.MinInt64, -1, 1000, math.MaxInt64} {
		list = append(list, namedHouse{"room", oneBed(impl.Bed{Room: n, Kind: 1})},
			namedHouse{"person", with(func(s *impl.Stay) { s.Person = n })},
			namedHouse{"person of an ended stay", with(func(s *impl.Stay) { s.Person, s.To = n, 9 })})
	}
	for _, n := range []int64{math.MinInt64, -1, 0, 4, math.MaxInt64} {
		list = append(list, namedHouse{"kind", oneBed(impl.Bed{Room: 1, Kind: n})},
			namedHouse{"need", with(func(s *impl.Stay) { s.Need = n })},
			namedHouse{"need of an ended stay", with(func(s *impl.Stay) { s.Need, s.To = n, 9 })})
	}
	for _, n := range []int64{math.MinInt64, -1, 0, 3, math.MaxInt64} {
		list = append(list, namedHouse{"sex", with(func(s *impl.Stay) { s.Sex = n })},
			namedHouse{"sex of an ended stay", with(func(s *impl.Stay) { s.Sex, s.To = n, 9 })})
	}
	for _, n := range []int64{math.MinInt64, -1, 5, math.MaxInt64} {
		list = append(list, namedHouse{"bed", with(func(s *impl.Stay) { s.Bed = n })},
			namedHouse{"bed of an ended stay", with(func(s *impl.Stay) { s.Bed, s.To = n, 9 })})
	}
	for _, n := range []int64{math.MinInt64, -2, 10000001, math.MaxInt64} {
		list = append(list, namedHouse{"from", with(func(s *impl.Stay) { s.From = n })},
			namedHouse{"from and to", with(func(s *impl.Stay) { s.From, s.To = n, n })},
			namedHouse{"to", with(func(s *impl.Stay) { s.To = n })})
	}
	return append(list, namedHouse{"from -1", with(func(s *impl.Stay) { s.From = -1 })})
}

// walkedHouse lets people in, over and out, each step held against isHouse alone.
func walkedHouse(coins *rand.Rand, beds, steps int) impl.House {
	var h impl.House
	for range beds {
		bed := impl.Bed{Room: coins.Int63n(4), Kind: 1 + coins.Int63n(3)}
		if next := (impl.House{Beds: append(slices.Clone(h.Beds), bed)}); isHouse(next) {
			h = next
		}
	}
	now := int64(0)
	for range steps {
		now += coins.Int63n(3)
		next := anewHouse(h)
		if len(h.Stays) > 0 && coins.Intn(2) == 0 {
			at := coins.Intn(len(h.Stays))
			if next.Stays[at].To == -1 {
				next.Stays[at].To = now
			}
		}
		if coins.Intn(4) > 0 {
			next.Stays = append(next.Stays, impl.Stay{Person: coins.Int63n(8), Sex: 1 + coins.Int63n(2), Need: 1 + coins.Int63n(3), Bed: coins.Int63n(int64(beds)), From: now, To: -1})
		}
		if isHouse(next) {
			h = next
		}
	}
	return h
}

func TestLimitsAndCodesOfBeds(t *testing.T) {
	got := []int64{impl.MaxBeds, impl.MaxStays, impl.MaxTime, impl.BdPlain, impl.BdWatched, impl.BdAlone, impl.MvIn, impl.MvTo, impl.MvOut}
	if want := []int64{200, 1000, 10000000, 1, 2, 3, 1, 2, 3}; !slices.Equal(got, want) {
		t.Error(got, want)
	}
	got = []int64{impl.HsBad, impl.HsMove, impl.HsLate, impl.HsThere, impl.HsNone, impl.HsBed, impl.HsFull}
	if want := []int64{1, 2, 3, 4, 5, 6, 7}; !slices.Equal(got, want) {
		t.Error(got, want)
	}
}

func TestHouseOk(t *testing.T) {
	for _, some := range someHouses() {
		if !isHouse(some.house) || !impl.HouseOk(some.house) {
			t.Errorf("%s: %v is right", some.name, some.house)
		}
	}
	for _, none := range noHouses() {
		if isHouse(none.house) || impl.HouseOk(none.house) {
			t.Errorf("%s: %v is not right", none.name, none.house)
		}
	}
}

func TestHouseOkOfAllShortLists(t *testing.T) {
	var beds []impl.Bed
	for room := int64(-1); room <= 1; room++ {
		for kind := int64(0); kind <= 4; kind++ {
			beds = append(beds, impl.Bed{Room: room, Kind: kind})
		}
	}
	for _, a := range beds {
		for _, b := range beds {
			for _, c := range beds {
				h := impl.House{Beds: []impl.Bed{a, b, c}}
				if got, want := impl.HouseOk(h), isHouse(h); got != want {
					t.Fatalf("HouseOk(%v) = %v", h, got)
				}
			}
		}
	}
	var stays []impl.Stay
	for person := int64(1); person <= 2; person++ {
		for sex := int64(1); sex <= 2; sex++ {
			for need := int64(1); need <= 3; need++ {
				for bed := int64(0); bed <= 4; bed++ {
					for to := int64(-2); to <= 2; to++ {
						stays = append(stays, impl.Stay{Person: person, Sex: sex, Need: need, Bed: bed, From: 1, To: to})
					}
				}
			}
		}
	}
	right := 0
	for _, a := range stays {
		for _, b := range stays {
			h := impl.House{Beds: []impl.Bed{{Room: 1, Kind: 1}, {Room: 1, Kind: 2}, {Room: 2, Kind: 2}, {Room: 3, Kind: 3}}, Stays: []impl.Stay{a, b}}
			want := isHouse(h)
			if got := impl.HouseOk(h); got != want {
				t.Fatalf("HouseOk(%v) = %v", h, got)
			}
			if want {
				right++
			}
		}
	}
	if right < 1000 {
		t.Error("too few were right:", right)
	}
}

func TestHouseOkOfHousesTurnedAtOnePlace(t *testing.T) {
	coins := rand.New(rand.NewSource(32))
	values := []int64{math.MinInt64, -2, -1, 0, 1, 2, 3, 4, 5, 6, 9, 20, 999, 1000, 10000000, 10000001, math.MaxInt64}
	seen := [2]int{}
	for range 20000 {
		h := walkedHouse(coins, 1+coins.Intn(6), 12)
		value := values[coins.Intn(len(values))]
		if len(h.Stays) == 0 || coins.Intn(4) == 0 {
			bed := &h.Beds[coins.Intn(len(h.Beds))]
			*[]*int64{&bed.Room, &bed.Kind}[coins.Intn(2)] = value
		} else {
			stay := &h.Stays[coins.Intn(len(h.Stays))]
			*[]*int64{&stay.Person, &stay.Sex, &stay.Need, &stay.Bed, &stay.From, &stay.To}[coins.Intn(6)] = value
		}
		want := isHouse(h)
		if got := impl.HouseOk(h); got != want {
			t.Fatalf("HouseOk(%v) = %v", h, got)
		}
		if want {
			seen[1]++
		} else {
			seen[0]++
		}
	}
	if seen[0] < 1000 || seen[1] < 1000 {
		t.Error("too few of one kind:", seen)
	}
}

func wantedFree(h impl.House, sex, need int64) []int64 {
	var free []int64
	if !isHouse(h) || !within(sex, 1, 2) || !within(need, 1, 3) {
		return free
	}
	for at, bed := range h.Beds {
		ok := kindServes(bed.Kind, need)
		for _, stay := range stillIn(h) {
			ok = ok && stay.Bed != int64(at) && (h.Beds[stay.Bed].Room != bed.Room || stay.Sex == sex)
		}
		if ok {
			free = append(free, int64(at))
		}
	}
	return free
}

func TestBedsFreeOfAWard(t *testing.T) {
	h := aWard()
	cases := []struct {
		sex, need int64
		want      []int64
	}{
		{1, 1, []int64{3}}, {2, 1, []int64{0, 3}}, {1, 2, nil}, {2, 2, nil}, {1, 3, nil}, {2, 3, nil},
		{0, 1, nil}, {3, 1, nil}, {1, 0, nil}, {1, 4, nil},
	}
	for _, c := range cases {
		if got := impl.BedsFree(h, c.sex, c.need); !slices.Equal(got, c.want) {
			t.Errorf("BedsFree(sex %d, need %d) = %v, want %v", c.sex, c.need, got, c.want)
		}
	}
	h.Stays = nil
	cases = cases[:6]
	for i, want := range [][]int64{{0, 1, 2, 3}, {0, 1, 2, 3}, {1, 2}, {1, 2}, {4}, {4}} {
		if got := impl.BedsFree(h, cases[i].sex, cases[i].need); !slices.Equal(got, want) {
			t.Errorf("of nobody: BedsFree(sex %d, need %d) = %v, want %v", cases[i].sex, cases[i].need, got, want)
		}
	}
}

func TestBedsFree(t *testing.T) {
	numbers := []int64{math.MinInt64, -1, 0, 1, 2, 3, 4, math.MaxInt64}
	for _, list := range append(someHouses(), noHouses()...) {
		for _, sex := range numbers {
			for _, need := range numbers {
				if got, want := impl.BedsFree(list.house, sex, need), wantedFree(list.house, sex, need); !slices.Equal(got, want) {
					t.Fatalf("%s: BedsFree(%v, %d, %d) = %v, want %v", list.name, list.house, sex, need, got, want)
				}
			}
		}
	}
	full := impl.House{Beds: bedsIn(2), Stays: endedStays(1000)}
	if got := impl.BedsFree(full, 2, 1); !slices.Equal(got, []int64{0, 1}) {
		t.Error("a house with 1000 stays has beds that are free:", got)
	}
}

func TestSomebodyMightComeIntoTheBedsThatAreFreeAndNoOther(t *testing.T) {
	coins := rand.New(rand.NewSource(33))
	for range 2000 {
		h := walkedHouse(coins, 1+coins.Intn(8), coins.Intn(20))
		sex, need := 1+coins.Int63n(2), 1+coins.Int63n(3)
		free := impl.BedsFree(h, sex, need)
		for bed := range int64(len(h.Beds)) {
			next := anewHouse(h)
			next.Stays = append(next.Stays, impl.Stay{Person: 999, Sex: sex, Need: need, Bed: bed, From: 10000000, To: -1})
			if got, want := slices.Contains(free, bed), isHouse(next); got != want {
				t.Fatalf("BedsFree(%v, %d, %d) = %v, but bed %d: %v", h, sex, need, free, bed, want)
			}
		}
		if !slices.IsSorted(free) || len(slices.Compact(slices.Clone(free))) != len(free) {
			t.Fatalf("%v does not rise", free)
		}
	}
}
