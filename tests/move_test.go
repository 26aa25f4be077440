package tests

import (
	"math"
	"math/rand"
	"slices"
	"testing"

	"loop.example/g00060/impl"
)

// wantedMove goes by the document's list: all that applies, of which the first is told.
func wantedMove(h impl.House, m impl.Move) (impl.House, int64) {
	if !isHouse(h) {
		return impl.House{}, 1
	}
	isIn, isTo, isOut := m.Kind == 1, m.Kind == 2, m.Kind == 3
	usesRight := isIn || isTo || isOut
	usesRight = usesRight && within(m.Person, 0, 999) && within(m.Time, 0, 10000000)
	usesRight = usesRight && (isOut || within(m.Bed, 0, int64(len(h.Beds))-1))
	usesRight = usesRight && (!isIn || within(m.Sex, 1, 2) && within(m.Need, 1, 3))
	if !usesRight {
		return h, 2
	}
	at := slices.IndexFunc(h.Stays, func(stay impl.Stay) bool { return stay.Person == m.Person && stay.To == -1 })
	if len(h.Stays) > 0 && m.Time < h.Stays[len(h.Stays)-1].From || !isIn && at >= 0 && m.Time < h.Stays[at].From {
		return h, 3
	}
	if isIn && at >= 0 {
		return h, 4
	}
	if !isIn && at < 0 {
		return h, 5
	}
	next := anewHouse(h)
	sex, need := m.Sex, m.Need
	if !isIn {
		next.Stays[at].To = m.Time
		sex, need = h.Stays[at].Sex, h.Stays[at].Need
	}
	if isOut {
		return next, 0
	}
	if !slices.Contains(wantedFree(next, sex, need), m.Bed) {
		return h, 6
	}
	if len(h.Stays) == 1000 {
		return h, 7
	}
	next.Stays = append(next.Stays, impl.Stay{Person: m.Person, Sex: sex, Need: need, Bed: m.Bed, From: m.Time, To: -1})
	return next, 0
}

func checkMove(t *testing.T, name string, h impl.House, m impl.Move) int64 {
	t.Helper()
	want, code := wantedMove(h, m)
	got, e := impl.HouseDo(h, m)
	if e != code || !sameHouse(got, want) {
		t.Fatalf("%s: HouseDo(%v, %+v) = %v, %d, want %v, %d", name, h, m, got, e, want, code)
	}
	return code
}

func TestHouseDoInToAndOut(t *testing.T) {
	h := impl.House{Beds: aWard().Beds}
	steps := []struct {
		move  impl.Move
		stays []impl.Stay
	}{
		{impl.Move{Kind: impl.MvIn, Person: 5, Sex: 2, Need: 1, Bed: 0, Time: 10},
			[]impl.Stay{{Person: 5, Sex: 2, Need: 1, Bed: 0, From: 10, To: -1}}},
		{impl.Move{Kind: impl.MvIn, Person: 6, Sex: 1, Need: 3, Bed: 4, Time: 10},
			[]impl.Stay{{Person: 5, Sex: 2, Need: 1, Bed: 0, From: 10, To: -1}, {Person: 6, Sex: 1, Need: 3, Bed: 4, From: 10, To: -1}}},
		{impl.Move{Kind: impl.MvTo, Person: 5, Bed: 2, Time: 12},
			[]impl.Stay{{Person: 5, Sex: 2, Need: 1, Bed: 0, From: 10, To: 12}, {Person: 6, Sex: 1, Need: 3, Bed: 4, From: 10, To: -1}, {Person: 5, Sex: 2, Need: 1, Bed: 2, From: 12, To: -1}}},
		{impl.Move{Kind: impl.MvOut, Person: 6, Time: 13},
			[]impl.Stay{{Person: 5, Sex: 2, Need: 1, Bed: 0, From: 10, To: 12}, {Person: 6, Sex: 1, Need: 3, Bed: 4, From: 10, To: 13}, {Person: 5, Sex: 2, Need: 1, Bed: 2, From: 12, To: -1}}},
		{impl.Move{Kind: impl.MvOut, Person: 5, Time: 12},
			[]impl.Stay{{Person: 5, Sex: 2, Need: 1, Bed: 0, From: 10, To: 12}, {Person: 6, Sex: 1, Need: 3, Bed: 4, From: 10, To: 13}, {Person: 5, Sex: 2, Need: 1, Bed: 2, From: 12, To: 12}}},
	}
	for _, step := range steps {
		next, code := impl.HouseDo(h, step.move)
		if want := (impl.House{Beds: h.Beds, Stays: step.stays}); code != 0 || !sameHouse(next, want) {
			t.Fatalf("%+v: %v, %d", step.move, next, code)
		}
		h = next
	}
}

func TestHouseDoUsesOnlyWhatItsKindNames(t *testing.T) {
	wild := []int64{math.MinInt64, -1, 0, 4, 1000, math.MaxInt64}
	h := aWard()
	for _, n := range wild {
		to, code := impl.HouseDo(h, impl.Move{Kind: impl.MvTo, Person: 12, Sex: n, Need: n, Bed: 0, Time: 30})
		if last := (impl.Stay{Person: 12, Sex: 2, Need: 1, Bed: 0, From: 30, To: -1}); code != 0 || to.Stays[4] != last || to.Stays[3].To != 30 {
			t.Errorf("MvTo with Sex and Need %d: %v, %d", n, to, code)
		}
		out, code := impl.HouseDo(h, impl.Move{Kind: impl.MvOut, Person: 12, Sex: n, Need: n, Bed: n, Time: 30})
		if code != 0 || len(out.Stays) != 4 || out.Stays[3].To != 30 {
			t.Errorf("MvOut with Sex, Need and Bed %d: %v, %d", n, out, code)
		}
	}
}

func TestHouseDoCodes(t *testing.T) {
	h := aWard()
	in := func(person, sex, need, bed, time int64) impl.Move {
		return impl.Move{Kind: impl.MvIn, Person: person, Sex: sex, Need: need, Bed: bed, Time: time}
	}
	to := func(person, bed, time int64) impl.Move {
		return impl.Move{Kind: impl.MvTo, Person: person, Bed: bed, Time: time}
	}
	out := func(person, time int64) impl.Move {
		return impl.Move{Kind: impl.MvOut, Person: person, Time: time}
	}
	cases := []struct {
		what string
		move impl.Move
		code int64
	}{
		{"no kind", impl.Move{Person: 1, Sex: 1, Need: 1, Bed: 3, Time: 20}, impl.HsMove},
		{"kind 4", impl.Move{Kind: 4, Person: 1, Sex: 1, Need: 1, Bed: 3, Time: 20}, impl.HsMove},
		{"kind -1", impl.Move{Kind: -1, Person: 1, Sex: 1, Need: 1, Bed: 3, Time: 20}, impl.HsMove},
		{"person 0", in(0, 1, 1, 3, 20), 0},
		{"person 999", in(999, 1, 1, 3, 20), 0},
		{"person -1", in(-1, 1, 1, 3, 20), impl.HsMove},
		{"person 1000", in(1000, 1, 1, 3, 20), impl.HsMove},
		{"person -1 over", to(-1, 3, 20), impl.HsMove},
		{"person 1000 out", out(1000, 20), impl.HsMove},
		{"sex 2", in(1, 2, 1, 3, 20), 0},
		{"sex 0", in(1, 0, 1, 3, 20), impl.HsMove},
		{"sex 3", in(1, 3, 1, 3, 20), impl.HsMove},
		{"need 0", in(1, 1, 0, 3, 20), impl.HsMove},
		{"need 4", in(1, 1, 4, 3, 20), impl.HsMove},
		{"bed -1", in(1, 1, 1, -1, 20), impl.HsMove},
		{"bed behind the last", in(1, 1, 1, 5, 20), impl.HsMove},
		{"bed behind the last over", to(11, 5, 20), impl.HsMove},
		{"bed -1 over", to(11, -1, 20), impl.HsMove},
		{"time -1", in(1, 1, 1, 3, -1), impl.HsMove},
		{"time behind the last", in(1, 1, 1, 3, 10000001), impl.HsMove},
		{"time behind the last over", to(11, 3, 10000001), impl.HsMove},
		{"time behind the last out", out(11, 10000001), impl.HsMove},
		{"time -1 out", out(11, -1), impl.HsMove},
		{"the last time", in(1, 1, 1, 3, 10000000), 0},
		{"the last time out", out(11, 10000000), 0},
		{"wrong number and late", in(1, 3, 1, 3, 19), impl.HsMove},
		{"wrong number of whom is there", in(11, 3, 1, 3, 20), impl.HsMove},
		{"wrong bed of whom is not there", to(1, 5, 20), impl.HsMove},
		{"late", in(1, 1, 1, 3, 19), impl.HsLate},
		{"late at 0", in(1, 1, 1, 3, 0), impl.HsLate},
		{"late out, though not below its own From", out(11, 19), impl.HsLate},
		{"late over", to(11, 3, 19), impl.HsLate},
		{"late, and there already", in(11, 1, 1, 3, 19), impl.HsLate},
		{"late, and not there", out(1, 19), impl.HsLate},
		{"late, and no such bed free", in(1, 1, 1, 0, 19), impl.HsLate},
		{"just not late", in(1, 1, 1, 3, 20), 0},
		{"just not late out", out(12, 20), 0},
		{"there already", in(11, 2, 1, 3, 20), impl.HsThere},
		{"there already, and no such bed free", in(11, 2, 3, 3, 20), impl.HsThere},
		{"there already, in its own bed", in(11, 2, 2, 1, 20), impl.HsThere},
		{"there again", in(10, 1, 3, 4, 20), impl.HsThere},
		{"not there out", out(1, 20), impl.HsNone},
		{"not there over", to(1, 3, 20), impl.HsNone},
		{"not there over, and no such bed free", to(1, 4, 20), impl.HsNone},
		{"bed taken", in(1, 2, 2, 1, 20), impl.HsBed},
		{"bed of another kind", in(1, 1, 2, 3, 20), impl.HsBed},
		{"bed for who must be alone", in(1, 1, 1, 4, 20), impl.HsBed},
		{"room of the other sex", in(1, 1, 1, 0, 20), impl.HsBed},
		{"room of its sex", in(1, 2, 1, 0, 20), 0},
		{"over into a bed that is taken", to(12, 1, 20), impl.HsBed},
		{"over into a bed of another kind", to(11, 3, 20), impl.HsBed},
		{"over into a bed of its room", to(12, 0, 20), 0},
		{"over into its own bed", to(12, 2, 20), 0},
		{"over into its own bed alone", to(10, 4, 25), 0},
	}
	for _, c := range cases {
		if code := checkMove(t, c.what, h, c.move); code != c.code {
			t.Errorf("%s: %d, want %d", c.what, code, c.code)
		}
	}
}

func TestHouseDoOfAHouseThatIsNotRight(t *testing.T) {
	for _, none := range noHouses() {
		for kind := int64(0); kind <= 4; kind++ {
			got, code := impl.HouseDo(none.house, impl.Move{Kind: kind, Person: 10, Sex: 1, Need: 1, Bed: 3, Time: 50})
			if code != impl.HsBad || len(got.Beds) != 0 || len(got.Stays) != 0 {
				t.Errorf("%s: %v, %d", none.name, got, code)
			}
		}
	}
}

func TestHouseDoWithAllStays(t *testing.T) {
	full := impl.House{Beds: bedsIn(4), Stays: endedStays(1000)}
	full.Stays[998] = impl.Stay{Person: 8, Sex: 1, Need: 1, Bed: 2, From: 998, To: -1}
	cases := []struct {
		what string
		move impl.Move
		code int64
	}{
		{"in", impl.Move{Kind: impl.MvIn, Person: 1, Sex: 1, Need: 1, Bed: 0, Time: 999}, impl.HsFull},
		{"over", impl.Move{Kind: impl.MvTo, Person: 8, Bed: 0, Time: 999}, impl.HsFull},
		{"over into its own bed", impl.Move{Kind: impl.MvTo, Person: 8, Bed: 2, Time: 999}, impl.HsFull},
		{"out adds no stay", impl.Move{Kind: impl.MvOut, Person: 8, Time: 999}, 0},
		{"into a bed that is taken", impl.Move{Kind: impl.MvIn, Person: 1, Sex: 1, Need: 1, Bed: 2, Time: 999}, impl.HsBed},
		{"into a room of the other sex", impl.Move{Kind: impl.MvIn, Person: 1, Sex: 2, Need: 1, Bed: 3, Time: 999}, impl.HsBed},
		{"there already", impl.Move{Kind: impl.MvIn, Person: 8, Sex: 1, Need: 1, Bed: 0, Time: 999}, impl.HsThere},
		{"not there", impl.Move{Kind: impl.MvTo, Person: 7, Bed: 0, Time: 999}, impl.HsNone},
		{"late", impl.Move{Kind: impl.MvIn, Person: 1, Sex: 1, Need: 1, Bed: 0, Time: 998}, impl.HsLate},
		{"no move", impl.Move{Kind: 4, Person: 1, Sex: 1, Need: 1, Bed: 0, Time: 999}, impl.HsMove},
	}
	for _, c := range cases {
		if code := checkMove(t, c.what, full, c.move); code != c.code {
			t.Errorf("%s: %d, want %d", c.what, code, c.code)
		}
	}
	fits := impl.House{Beds: full.Beds, Stays: full.Stays[:999]}
	for _, c := range cases[:3] {
		if code := checkMove(t, c.what, fits, c.move); code != 0 {
			t.Errorf("the last stay that fits, %s: %d", c.what, code)
		}
	}
}

func TestMvToIsHeldAgainstTheHouseOnceTheStayHasEnded(t *testing.T) {
	h := impl.House{
		Beds: []impl.Bed{{Room: 1, Kind: 1}, {Room: 1, Kind: 2}, {Room: 2, Kind: 3}},
		Stays: []impl.Stay{
			{Person: 1, Sex: 1, Need: 1, Bed: 1, From: 4, To: -1},
			{Person: 2, Sex: 2, Need: 3, Bed: 2, From: 4, To: -1},
		},
	}
	for person, bed := range map[int64]int64{1: 1, 2: 2} {
		next, code := impl.HouseDo(h, impl.Move{Kind: impl.MvTo, Person: person, Bed: bed, Time: 4})
		if code != 0 || len(next.Stays) != 3 || next.Stays[person-1].To != 4 || next.Stays[2].Bed != bed || next.Stays[2].From != 4 {
			t.Errorf("person %d over into its own bed: %v, %d", person, next, code)
		}
	}
	// The bed of the stay that ends is free for nobody ahead of its end.
	if free := impl.BedsFree(h, 1, 1); !slices.Equal(free, []int64{0}) {
		t.Error(free)
	}
}

func TestHouseDoOfManyMoves(t *testing.T) {
	coins := rand.New(rand.NewSource(34))
	wild := []int64{math.MinInt64, -1, 0, 4, 1000, 10000001, math.MaxInt64}
	seen := [8]int{}
	for range 40000 {
		h := walkedHouse(coins, 1+coins.Intn(7), coins.Intn(14))
		last := int64(0)
		if len(h.Stays) > 0 {
			last = h.Stays[len(h.Stays)-1].From
		}
		m := impl.Move{Kind: 1 + coins.Int63n(3), Person: coins.Int63n(8), Sex: 1 + coins.Int63n(2), Need: 1 + coins.Int63n(3), Bed: coins.Int63n(int64(len(h.Beds))), Time: max(0, last-1+coins.Int63n(4))}
		if coins.Intn(6) == 0 {
			*[]*int64{&m.Kind, &m.Person, &m.Sex, &m.Need, &m.Bed, &m.Time}[coins.Intn(6)] = wild[coins.Intn(len(wild))]
		}
		if coins.Intn(40) == 0 {
			h.Beds[0].Kind = 0
		}
		seen[checkMove(t, "random", h, m)]++
	}
	for code, count := range seen[:7] {
		if count < 100 {
			t.Error("too few with code", code, seen)
		}
	}
}

func TestHouseDoOfAllNamedHouses(t *testing.T) {
	for _, list := range append(someHouses(), noHouses()...) {
		for kind := int64(0); kind <= 4; kind++ {
			for _, person := range []int64{-1, 1, 10, 1000} {
				for _, bed := range []int64{-1, 0, 1, 3, 200} {
					for _, time := range []int64{-1, 0, 9, 999, 10000000, 10000001} {
						checkMove(t, list.name, list.house, impl.Move{Kind: kind, Person: person, Sex: 1, Need: 1, Bed: bed, Time: time})
					}
				}
			}
		}
	}
}

// checkNobodyTwice asks in each minute whether somebody is in two beds, or a bed has two people.
func checkNobodyTwice(t *testing.T, h impl.House, until int64) {
	t.Helper()
	for minute := int64(0); minute <= until; minute++ {
		persons, beds := map[int64]int{}, map[int64]int{}
		for _, stay := range h.Stays {
			if stay.From <= minute && (stay.To == -1 || stay.To > minute) {
				persons[stay.Person]++
				beds[stay.Bed]++
				if persons[stay.Person] > 1 || beds[stay.Bed] > 1 {
					t.Fatalf("minute %d: %+v is not alone in %v", minute, stay, h)
				}
			}
		}
	}
}

func TestARightHouseStaysRight(t *testing.T) {
	coins := rand.New(rand.NewSource(35))
	done := 0
	for range 60 {
		h := impl.House{Beds: walkedHouse(coins, 2+coins.Intn(8), 0).Beds}
		now := int64(0)
		for range 120 {
			now += coins.Int63n(2)
			m := impl.Move{Kind: 1 + coins.Int63n(3), Person: coins.Int63n(7), Sex: 1 + coins.Int63n(2), Need: 1 + coins.Int63n(3), Bed: coins.Int63n(int64(len(h.Beds))), Time: now}
			next, code := impl.HouseDo(h, m)
			if !impl.HouseOk(next) || !isHouse(next) {
				t.Fatalf("%v became %v by %+v", h, next, m)
			}
			if code != 0 && !sameHouse(next, h) {
				t.Fatalf("refused with %d, but %v became %v", code, h, next)
			}
			if code == 0 {
				done++
			}
			h = next
		}
		checkNobodyTwice(t, h, now+1)
		checkPlaces(t, h, now+1)
	}
	if done < 1000 {
		t.Error("too few moves were done:", done)
	}
}

// checkPlaces asks WhereAt of everybody in each minute: no bed is told of two.
func checkPlaces(t *testing.T, h impl.House, until int64) {
	t.Helper()
	for minute := int64(0); minute <= until; minute++ {
		var told [200]int
		for person := range int64(8) {
			bed := impl.WhereAt(h, person, minute)
			if bed < 0 {
				continue
			}
			told[bed]++
			if told[bed] > 1 {
				t.Fatalf("minute %d: bed %d has two of %v", minute, bed, h)
			}
		}
	}
}

func TestHouseDoAnswersNewMemoryAndLeavesItsArgument(t *testing.T) {
	moves := []impl.Move{
		{Kind: impl.MvIn, Person: 1, Sex: 1, Need: 1, Bed: 3, Time: 20},
		{Kind: impl.MvTo, Person: 12, Bed: 0, Time: 20},
		{Kind: impl.MvOut, Person: 11, Time: 20},
		{Kind: impl.MvIn, Person: 1, Sex: 1, Need: 1, Bed: 0, Time: 20},
		{Kind: impl.MvTo, Person: 12, Bed: 1, Time: 20},
		{Kind: impl.MvOut, Person: 1, Time: 20},
		{Kind: impl.MvIn, Person: 1, Sex: 1, Need: 1, Bed: 3, Time: 1},
		{Kind: 9},
	}
	for _, m := range moves {
		beds := append(make([]impl.Bed, 0, 20), aWard().Beds...)
		stays := append(make([]impl.Stay, 0, 20), aWard().Stays...)
		for i := len(beds); i < 20; i++ {
			beds[:20][i] = impl.Bed{Room: 77, Kind: 77}
		}
		for i := len(stays); i < 20; i++ {
			stays[:20][i] = impl.Stay{Person: 77}
		}
		h := impl.House{Beds: beds, Stays: stays}
		got, _ := impl.HouseDo(h, m)
		impl.BedsFree(h, 1, 1)
		got.Beds[0].Kind = 99
		got.Stays[0].Person = 99
		got.Beds = append(got.Beds, impl.Bed{Room: 98})
		got.Stays = append(got.Stays, impl.Stay{Person: 98})
		if !sameHouse(h, aWard()) {
			t.Errorf("%+v: the argument became %v", m, h)
		}
		for i := 5; i < 20; i++ {
			if beds[:20][i] != (impl.Bed{Room: 77, Kind: 77}) || stays[:20][i] != (impl.Stay{Person: 77}) {
				t.Errorf("%+v: written behind the argument at %d", m, i)
			}
		}
		if stays[:20][4] != (impl.Stay{Person: 77}) {
			t.Errorf("%+v: written behind the last stay", m)
		}
	}
}
