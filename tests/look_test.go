package tests

import (
	"math/rand"
	"slices"
	"testing"

	"loop.example/g00060/impl"
)

// wantedLooks goes by what MaySee is to tell, one by one.
func wantedLooks(r impl.Rules, list []impl.Look) (codes, booked []int64) {
	if len(list) > 1000 {
		return nil, nil
	}
	for place, l := range list {
		code := wantedSee(r, l)
		if code > 1 && l.Glass {
			code, booked = 0, append(booked, int64(place))
		}
		codes = append(codes, code)
	}
	return codes, booked
}

func checkLooks(t *testing.T, what string, r impl.Rules, list []impl.Look, wantCodes, wantBooked []int64) {
	t.Helper()
	if codes, booked := impl.Looks(r, list); !slices.Equal(codes, wantCodes) || !slices.Equal(booked, wantBooked) {
		t.Errorf("%s: Looks(%+v, %+v) = %v, %v, want %v, %v", what, r, list, codes, booked, wantCodes, wantBooked)
	}
	if codes, booked := wantedLooks(r, list); !slices.Equal(codes, wantCodes) || !slices.Equal(booked, wantBooked) {
		t.Errorf("%s: the test itself tells %v, %v, want %v, %v", what, codes, booked, wantCodes, wantBooked)
	}
}

func checkLooksAsTold(t *testing.T, r impl.Rules, list []impl.Look) (codes, booked []int64) {
	t.Helper()
	codes, booked = impl.Looks(r, list)
	if wantCodes, wantBooked := wantedLooks(r, list); !slices.Equal(codes, wantCodes) || !slices.Equal(booked, wantBooked) {
		t.Fatalf("Looks(%+v, %+v) = %v, %v, want %v, %v", r, list, codes, booked, wantCodes, wantBooked)
	}
	return codes, booked
}

func byGlass(l impl.Look) impl.Look {
	l.Glass = true
	return l
}

// lookCases has a look for each code from 0 to 4, at its place, by aHouseRule.
func lookCases() []impl.Look {
	return []impl.Look{aLook(), lookOf(3, 1, 4, 20, 15), lookOf(3, 1, 4, 3, 15), lookOf(3, 1, 4, 2, 21), lookOf(3, 7, 4, 8, 15)}
}

func TestLooksOfNone(t *testing.T) {
	checkLooks(t, "none", aHouseRule(), nil, nil, nil)
	checkLooks(t, "an empty list", aHouseRule(), []impl.Look{}, nil, nil)
	checkLooks(t, "none, no rules", impl.Rules{}, nil, nil, nil)
	checkLooks(t, "none, wrong rules", rulesAs(func(r *impl.Rules) { r.Grants[0].Role = 20 }), nil, nil, nil)
	checkLooks(t, "no rules", impl.Rules{}, []impl.Look{aLook(), byGlass(aLook()), {}}, []int64{2, 0, 2}, []int64{1})
}

func TestEachCodeWithAndWithoutGlass(t *testing.T) {
	r := aHouseRule()
	for code, l := range lookCases() {
		checkSee(t, "the case", r, l, int64(code))
		checkLooks(t, "without Glass", r, []impl.Look{l}, []int64{int64(code)}, nil)
		switch code {
		case 0:
			checkLooks(t, "with Glass, though there is no need", r, []impl.Look{byGlass(l)}, []int64{0}, nil)
		case 1:
			checkLooks(t, "with Glass, out of range", r, []impl.Look{byGlass(l)}, []int64{1}, nil)
		default:
			checkLooks(t, "with Glass", r, []impl.Look{byGlass(l)}, []int64{0}, []int64{0})
		}
	}
	all := lookCases()
	checkLooks(t, "all without Glass", r, all, []int64{0, 1, 2, 3, 4}, nil)
	for at := range all {
		all[at].Glass = true
	}
	checkLooks(t, "all with Glass", r, all, []int64{0, 1, 0, 0, 0}, []int64{2, 3, 4})
	slices.Reverse(all)
	checkLooks(t, "all with Glass, the other way round", r, all, []int64{0, 0, 0, 1, 0}, []int64{0, 1, 2})
	checkLooks(t, "one by one", r, []impl.Look{lookCases()[4], byGlass(lookCases()[3]), lookCases()[3], aLook(), byGlass(aLook()), byGlass(lookCases()[1]), byGlass(lookCases()[2])}, []int64{4, 0, 3, 0, 0, 1, 0}, []int64{1, 6})
}

// Each number out of range, with Glass and without it.
func TestGlassDoesNotHelpOutOfRange(t *testing.T) {
	for _, l := range []impl.Look{
		lookOf(-1, 1, 4, 2, 15), lookOf(1000, 1, 4, 2, 15), lookOf(3, -1, 4, 2, 15), lookOf(3, 20, 4, 2, 15), lookOf(3, 1, -1, 2, 15), lookOf(3, 1, 1000, 2, 15),
		lookOf(3, 1, 4, -1, 15), lookOf(3, 1, 4, 20, 15), lookOf(3, 1, 4, 2, -1), lookOf(3, 1, 4, 2, 10000001),
	} {
		checkLooks(t, "out of range", aHouseRule(), []impl.Look{l, byGlass(l), aLook()}, []int64{1, 1, 0}, nil)
	}
	for _, l := range []impl.Look{lookOf(0, 0, 0, 0, 0), lookOf(999, 19, 999, 19, 10000000)} {
		checkLooks(t, "at the ends", aHouseRule(), []impl.Look{l, byGlass(l), aLook()}, []int64{2, 0, 0}, []int64{1})
	}
}

func TestLooksByWrongRules(t *testing.T) {
	for _, r := range []impl.Rules{
		rulesAs(func(r *impl.Rules) { r.Grants[0].Role = 20 }), rulesAs(func(r *impl.Rules) { r.Cares[0].From = 10 }), rulesAs(func(r *impl.Rules) { r.Refusals[0].Person = -1 }),
		rulesAs(func(r *impl.Rules) { r.Grants = slices.Repeat(r.Grants, 101) }), rulesAs(func(r *impl.Rules) { r.Cares = slices.Repeat(r.Cares, 101) }), rulesAs(func(r *impl.Rules) { r.Refusals = slices.Repeat(r.Refusals, 101) }),
	} {
		all := lookCases()
		checkLooks(t, "without Glass", r, all, []int64{1, 1, 1, 1, 1}, nil)
		for at := range all {
			all[at].Glass = true
		}
		checkLooks(t, "with Glass", r, all, []int64{1, 1, 1, 1, 1}, nil)
		checkLooks(t, "MaxSteps of them", r, slices.Repeat(all, 200), slices.Repeat([]int64{1}, 1000), nil)
		checkLooks(t, "one more", r, append(slices.Repeat(all, 200), aLook()), nil, nil)
	}
}

func TestTheSameLookTwice(t *testing.T) {
	no := lookCases()[3]
	checkLooks(t, "that may see", aHouseRule(), []impl.Look{aLook(), aLook()}, []int64{0, 0}, nil)
	checkLooks(t, "that may not", aHouseRule(), []impl.Look{no, no}, []int64{3, 3}, nil)
	checkLooks(t, "that breaks the glass", aHouseRule(), []impl.Look{byGlass(no), byGlass(no)}, []int64{0, 0}, []int64{0, 1})
	// Who broke the glass once has no right to look by that.
	checkLooks(t, "behind one that broke the glass", aHouseRule(), []impl.Look{byGlass(no), no, byGlass(no), no}, []int64{0, 3, 0, 3}, []int64{0, 2})
}

func TestLooksAtTheirLimit(t *testing.T) {
	no := byGlass(lookCases()[3])
	for _, count := range []int{1, 2, 500, 999, 1000} {
		checkLooks(t, "all may see", aHouseRule(), slices.Repeat([]impl.Look{aLook()}, count), make([]int64, count), nil)
		checkLooks(t, "all break the glass", aHouseRule(), slices.Repeat([]impl.Look{no}, count), make([]int64, count), numbersTo(int64(count)))
	}
	for _, count := range []int{1001, 1002, 3000} {
		checkLooks(t, "too many that may see", aHouseRule(), slices.Repeat([]impl.Look{aLook()}, count), nil, nil)
		checkLooks(t, "too many that break the glass", aHouseRule(), slices.Repeat([]impl.Look{no}, count), nil, nil)
		checkLooks(t, "too many, out of range", aHouseRule(), slices.Repeat([]impl.Look{lookOf(-1, -1, -1, -1, -1)}, count), nil, nil)
	}
	last := append(slices.Repeat([]impl.Look{aLook()}, 999), no)
	checkLooks(t, "the last one alone", aHouseRule(), last, make([]int64, 1000), []int64{999})
}

func TestLooksOfManyRules(t *testing.T) {
	coins := rand.New(rand.NewSource(149))
	told, booked := [5]int{}, 0
	for range 3000 {
		r, list := randomHouseRules(coins, 10), []impl.Look{}
		if coins.Intn(10) == 0 {
			spoilRules(coins, &r)
		}
		for range coins.Intn(40) {
			list = append(list, randomLook(coins))
		}
		codes, places := checkLooksAsTold(t, r, list)
		for _, code := range codes {
			told[code]++
		}
		booked += len(places)
	}
	for code, count := range told {
		if count < 1000 {
			t.Error("too few of a code:", code, count)
		}
	}
	if booked < 2000 {
		t.Error(booked)
	}
}

// Promise 17, by whatever looks: who is let see without being booked has a grant, a care and no refusal; and only who would break the glass is booked.
func TestNobodySeesButBooked(t *testing.T) {
	coins := rand.New(rand.NewSource(150))
	for range 500 {
		r, list := randomHouseRules(coins, 10), []impl.Look{}
		for range coins.Intn(200) {
			list = append(list, randomLook(coins))
		}
		codes, booked := impl.Looks(r, list)
		if len(codes) != len(list) || !slices.IsSorted(booked) {
			t.Fatal(len(list), codes, booked)
		}
		for place, l := range list {
			isBooked := slices.Contains(booked, int64(place))
			lets := isLook(l) && hasGrant(r, l) && hasCare(r, l) && !isRefused(r, l)
			if isBooked != (!lets && isLook(l) && l.Glass) || (codes[place] == 0) != (lets || isBooked) {
				t.Fatalf("Looks(%+v, %+v) = %v, %v: place %d", r, list, codes, booked, place)
			}
		}
	}
}

// What is told is the same however the looks run, and nothing of one call is booked in another.
func TestLooksAgainAndAgain(t *testing.T) {
	coins := rand.New(rand.NewSource(151))
	r, list := randomHouseRules(coins, 10), []impl.Look{}
	for range 1000 {
		list = append(list, randomLook(coins))
	}
	wantCodes, wantBooked := checkLooksAsTold(t, r, list)
	if len(wantBooked) < 100 {
		t.Error(len(wantBooked))
	}
	for range 200 {
		codes, booked := impl.Looks(r, list)
		if !slices.Equal(codes, wantCodes) || !slices.Equal(booked, wantBooked) {
			t.Fatal(codes, booked)
		}
		checkLooks(t, "another call between", aHouseRule(), []impl.Look{aLook(), byGlass(lookCases()[4])}, []int64{0, 0}, []int64{1})
	}
}

func TestLooksSideBySide(t *testing.T) {
	answers := make(chan bool)
	for count := range 30 {
		go func() {
			list := append(slices.Repeat([]impl.Look{aLook()}, 100), slices.Repeat([]impl.Look{byGlass(lookCases()[2])}, count)...)
			ok := true
			for range 20 {
				codes, booked := impl.Looks(aHouseRule(), list)
				wantCodes, wantBooked := wantedLooks(aHouseRule(), list)
				ok = ok && slices.Equal(codes, wantCodes) && slices.Equal(booked, wantBooked)
			}
			answers <- ok
		}()
	}
	for range 30 {
		if !<-answers {
			t.Error("an answer is another one side by side")
		}
	}
}

// rulesWithRoom is rules with spare room behind their lists, and a look at all of it.
func rulesWithRoom(r impl.Rules) (impl.Rules, func() impl.Rules) {
	room := impl.Rules{
		Grants:   append(slices.Clone(r.Grants), grantOf(18, 17), grantOf(-1, -2)),
		Cares:    append(slices.Clone(r.Cares), careOf(18, 17, 1, 2), careOf(-1, -2, -3, -4)),
		Refusals: append(slices.Clone(r.Refusals), refusalOf(18, 17), refusalOf(-1, -2)),
	}
	shown := impl.Rules{Grants: room.Grants[:len(r.Grants)], Cares: room.Cares[:len(r.Cares)], Refusals: room.Refusals[:len(r.Refusals)]}
	return shown, func() impl.Rules { return anewRules(room) }
}

func TestRulesAndLooksStayAndAnswersAreNewMemory(t *testing.T) {
	wrong := rulesAs(func(r *impl.Rules) { r.Cares[1].To = 9 })
	for _, given := range []impl.Rules{aHouseRule(), wrong, {}} {
		r, behind := rulesWithRoom(given)
		room := append(lookCases(), byGlass(lookCases()[4]), byGlass(lookCases()[2]), lookOf(-7, -7, -7, -7, -7))
		before, roomBefore := behind(), slices.Clone(room)
		list := room[:7]
		codes, booked := impl.Looks(r, list)
		keptCodes, keptBooked := slices.Clone(codes), slices.Clone(booked)
		otherCodes, otherBooked := impl.Looks(r, list)
		clear(otherCodes[:cap(otherCodes)])
		if !slices.Equal(otherBooked, keptBooked) {
			t.Fatal("two lists of one answer share memory")
		}
		clear(otherBooked[:cap(otherBooked)])
		impl.RulesOk(r)
		maySee(r, aLook())
		if !sameRules(behind(), before) || !slices.Equal(room, roomBefore) {
			t.Fatal("an argument was written into, or shares memory with an answer")
		}
		if !slices.Equal(codes, keptCodes) || !slices.Equal(booked, keptBooked) {
			t.Fatal("two answers share memory")
		}
	}
}
