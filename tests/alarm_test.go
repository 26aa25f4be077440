package tests

import (
	"math"
	"math/rand"
	"slices"
	"strconv"
	"strings"
	"testing"

	"loop.example/g00060/impl"
)

// ticksOf reads ticks, one a word: a sample's value, or ? where nothing is known, and ! ahead of it where the button was pressed.
func ticksOf(text string) []impl.Tick {
	var ticks []impl.Tick
	for _, word := range strings.Fields(text) {
		value, heard := strings.CutPrefix(word, "!")
		tick := impl.Tick{Known: value != "?", Heard: heard}
		if tick.Known {
			n, err := strconv.ParseInt(value, 10, 64)
			if err != nil {
				panic(err)
			}
			tick.Value = n
		}
		ticks = append(ticks, tick)
	}
	return ticks
}

// alarmOf has the bounds 0 and 10.
func alarmOf(slack, delay int64) impl.Alarm {
	return impl.Alarm{High: 10, Low: 0, Slack: slack, Delay: delay}
}

func isAlarm(a impl.Alarm) bool {
	bounds := within(a.High, -100000, 100000) && within(a.Low, -100000, 100000) && a.Low < a.High
	return bounds && a.Slack >= 0 && 2*a.Slack <= a.High-a.Low && a.Slack <= 100000 && within(a.Delay, 0, 100)
}

func isTick(tick impl.Tick) bool {
	return tick.Known && within(tick.Value, -100000, 100000) || !tick.Known && tick.Value == 0
}

// wantedSide looks back: a sample beyond the bound, and since then none that the slack lets go.
func wantedSide(a impl.Alarm, ticks []impl.Tick, at int) int64 {
	above, below := true, true
	for place := at; place >= 0; place-- {
		tick := ticks[place]
		if !tick.Known {
			continue
		}
		above = above && tick.Value > a.High-a.Slack
		below = below && tick.Value < a.Low+a.Slack
		if above && tick.Value > a.High {
			return 1
		}
		if below && tick.Value < a.Low {
			return -1
		}
		if !above && !below {
			return 0
		}
	}
	return 0
}

// inRow is how many samples in a row, up to that place, have the side that the last of them has.
func inRow(ticks []impl.Tick, sides []int64, at int) int64 {
	count := int64(0)
	for place := at; place >= 0 && sides[place] == sides[at]; place-- {
		if ticks[place].Known {
			count++
		}
	}
	return count
}

func wantedSides(a impl.Alarm, ticks []impl.Tick) []int64 {
	sides := make([]int64, len(ticks))
	for at := range ticks {
		sides[at] = wantedSide(a, ticks, at)
	}
	return sides
}

// wantedSounds looks back for the last press, and for a sample from there on that is the one behind Delay.
func wantedSounds(a impl.Alarm, ticks []impl.Tick, sides []int64, at int) bool {
	for place := at; place >= 0; place-- {
		if ticks[place].Known && sides[place] != 0 && inRow(ticks, sides, place) == a.Delay+1 {
			return true
		}
		if ticks[place].Heard {
			return false
		}
	}
	return false
}

func wantedAlarm(a impl.Alarm, ticks []impl.Tick) (told, began []int64) {
	sides := wantedSides(a, ticks)
	was := false
	for at, tick := range ticks {
		sounds := wantedSounds(a, ticks, sides, at)
		if sounds && (!was || tick.Heard) {
			began = append(began, int64(at))
		}
		if sounds {
			told = append(told, sides[at]+10)
		} else {
			told = append(told, sides[at])
		}
		was = sounds
	}
	return told, began
}

func wantedQuiet(ticks []impl.Tick) []impl.Tick {
	return slices.DeleteFunc(slices.Clone(ticks), func(tick impl.Tick) bool { return tick == impl.Tick{} })
}

// checkAlarm holds Watch, Sounded and Quiet against the oracle.
func checkAlarm(t *testing.T, a impl.Alarm, ticks []impl.Tick) {
	t.Helper()
	if !impl.AlarmOk(a) {
		t.Fatalf("refused: %v", a)
	}
	told, began := wantedAlarm(a, ticks)
	if got := impl.Watch(a, ticks); !slices.Equal(got, told) {
		t.Fatalf("Watch(%v, %v) = %v, want %v", a, ticks, got, told)
	}
	if got := impl.Sounded(a, ticks); !slices.Equal(got, began) {
		t.Fatalf("Sounded(%v, %v) = %v, want %v", a, ticks, got, began)
	}
	if got, want := impl.Quiet(ticks), wantedQuiet(ticks); !slices.Equal(got, want) {
		t.Fatalf("Quiet(%v) = %v, want %v", ticks, got, want)
	}
}

// checkNoAlarm asks for the fixed answers, with ticks at which a right alarm would sound.
func checkNoAlarm(t *testing.T, a impl.Alarm) {
	t.Helper()
	ticks := ticksOf("11 100000 !100000 ? -1 -100000 -100000")
	if impl.AlarmOk(a) || len(impl.Watch(a, ticks)) != 0 || len(impl.Sounded(a, ticks)) != 0 || len(impl.Watch(a, nil)) != 0 {
		t.Errorf("%v is accepted", a)
	}
}

// checkNoTicks asks for the fixed answers of ticks that are none.
func checkNoTicks(t *testing.T, what string, ticks []impl.Tick) {
	t.Helper()
	for _, a := range []impl.Alarm{alarmOf(0, 0), alarmOf(5, 1), {High: 100000, Low: -100000}} {
		if told, began := impl.Watch(a, ticks), impl.Sounded(a, ticks); len(told) != 0 || len(began) != 0 {
			t.Errorf("%s, by %v: %d, %v", what, a, len(told), began)
		}
	}
	if kept := impl.Quiet(ticks); len(kept) != 0 {
		t.Errorf("%s: %d are kept", what, len(kept))
	}
}

// beyondOften has a count of ticks that are above, below, within, not known and heard in turn.
func beyondOften(count int) []impl.Tick {
	turn := ticksOf("11 12 ? 13 5 !? 11 11 ? -1 !-2 -3 ? ? 5 5")
	var ticks []impl.Tick
	for len(ticks) < count {
		ticks = append(ticks, turn...)
	}
	return ticks[:count]
}

// randomTicks lie about the bounds 0 and 10, and go on for a while on one side; few are heard.
func randomTicks(coins *rand.Rand, count int) []impl.Tick {
	ticks := make([]impl.Tick, count)
	middle := int64(5)
	for at := range ticks {
		if coins.Intn(5) == 0 {
			middle = coins.Int63n(15) - 2
		}
		ticks[at].Heard = coins.Intn(6) == 0
		if coins.Intn(5) > 0 {
			ticks[at].Known, ticks[at].Value = true, middle+coins.Int63n(5)-2
		}
	}
	return ticks
}

func TestAlarmConstants(t *testing.T) {
	got := []int64{impl.MaxValue, impl.MaxDelay, impl.MaxTicks, impl.MaxWait, impl.MaxRungs}
	if !slices.Equal(got, []int64{100000, 100, 2000, 1000, 20}) {
		t.Fatal(got)
	}
}

func TestAlarmOk(t *testing.T) {
	for what, a := range map[string]impl.Alarm{
		"High at the most":              {High: 100000, Low: 0},
		"Low at the least":              {High: 0, Low: -100000},
		"both at their ends":            {High: 100000, Low: -100000},
		"both high":                     {High: 100000, Low: 99999},
		"both low":                      {High: -99999, Low: -100000},
		"Low just below High":           {High: 0, Low: -1},
		"half of 10":                    {High: 10, Low: 0, Slack: 5},
		"half of 11":                    {High: 11, Low: 0, Slack: 5},
		"half of 1":                     {High: 7, Low: 6, Slack: 0},
		"half of 2":                     {High: 7, Low: 5, Slack: 1},
		"half of 5, both below 0":       {High: -3, Low: -8, Slack: 2},
		"half of 6, both below 0":       {High: -3, Low: -9, Slack: 3},
		"half of 7, about 0":            {High: 3, Low: -4, Slack: 3},
		"half of all":                   {High: 100000, Low: -100000, Slack: 100000},
		"half of all but one":           {High: 100000, Low: -99999, Slack: 99999},
		"the longest delay":             {High: 10, Low: 0, Delay: 100},
		"all at their greatest at once": {High: 100000, Low: -100000, Slack: 100000, Delay: 100},
	} {
		if !impl.AlarmOk(a) {
			t.Errorf("%s: %v is refused", what, a)
		}
		if got := impl.Watch(a, make([]impl.Tick, 3)); !slices.Equal(got, []int64{0, 0, 0}) {
			t.Errorf("%s: %v", what, got)
		}
	}
}

func TestWrongAlarms(t *testing.T) {
	for _, a := range []impl.Alarm{
		{},
		{High: 100001, Low: 0}, {High: 0, Low: -100001}, {High: 100001, Low: 100000}, {High: -100000, Low: -100001},
		{High: 100001, Low: -100001}, {High: math.MaxInt64, Low: math.MinInt64}, {High: math.MaxInt64, Low: 0}, {High: 0, Low: math.MinInt64},
		{High: math.MinInt64, Low: math.MaxInt64}, {High: math.MinInt64, Low: math.MinInt64 + 1}, {High: math.MinInt64, Low: 0}, {High: 0, Low: math.MaxInt64},
		{High: 5, Low: 5}, {High: 5, Low: 6}, {High: 0, Low: 10}, {High: -100000, Low: 100000}, {High: 100000, Low: 100000}, {High: -100000, Low: -100000},
		{High: 10, Low: 0, Slack: 6}, {High: 11, Low: 0, Slack: 6}, {High: 1, Low: 0, Slack: 1}, {High: -3, Low: -8, Slack: 3}, {High: -3, Low: -9, Slack: 4}, {High: 3, Low: -4, Slack: 4},
		{High: 100000, Low: -100000, Slack: 100001}, {High: 10, Low: 0, Slack: -1}, {High: 10, Low: 0, Slack: math.MinInt64}, {High: 10, Low: 0, Slack: math.MaxInt64},
		{High: 10, Low: 0, Delay: 101}, {High: 10, Low: 0, Delay: -1}, {High: 10, Low: 0, Delay: math.MaxInt64}, {High: 10, Low: 0, Delay: math.MinInt64},
	} {
		checkNoAlarm(t, a)
	}
}

func TestAlarmOkAtAllEdges(t *testing.T) {
	bounds := []int64{math.MinInt64, -100001, -100000, -99999, -1, 0, 1, 10, 11, 99999, 100000, 100001, math.MaxInt64}
	slacks := []int64{math.MinInt64, -1, 0, 1, 4, 5, 6, 49999, 50000, 50001, 99999, 100000, 100001, math.MaxInt64}
	for _, high := range bounds {
		for _, low := range bounds {
			for _, slack := range slacks {
				for _, delay := range []int64{math.MinInt64, -1, 0, 1, 99, 100, 101, math.MaxInt64} {
					a := impl.Alarm{High: high, Low: low, Slack: slack, Delay: delay}
					if got, want := impl.AlarmOk(a), isAlarm(a); got != want {
						t.Fatalf("%v: %v, want %v", a, got, want)
					}
				}
			}
		}
	}
}

// Each small alarm, by counting: the greatest slack is the last of which two fit between the bounds.
func TestSlackOfEachDifference(t *testing.T) {
	for low := int64(-12); low <= 12; low++ {
		for apart := int64(1); apart <= 12; apart++ {
			most := int64(0)
			for low+most+1 <= low+apart-most-1 {
				most++
			}
			right := impl.Alarm{High: low + apart, Low: low, Slack: most}
			over := impl.Alarm{High: low + apart, Low: low, Slack: most + 1}
			if !impl.AlarmOk(right) || impl.AlarmOk(over) {
				t.Errorf("%v and %v", right, over)
			}
		}
	}
}

func TestTickValues(t *testing.T) {
	all := impl.Alarm{High: 100000, Low: -100000}
	ticks := ticksOf("100000 -100000 0 ? !100000 !-100000 !?")
	if got := impl.Watch(all, ticks); !slices.Equal(got, make([]int64, 7)) {
		t.Error(got)
	}
	if got := impl.Watch(alarmOf(0, 0), ticks); !slices.Equal(got, []int64{11, 9, 10, 10, 11, 9, -1}) {
		t.Error(got)
	}
	if got := impl.Quiet(ticks); !slices.Equal(got, ticksOf("100000 -100000 0 !100000 !-100000 !?")) {
		t.Error(got)
	}
	near := impl.Alarm{High: 99999, Low: -99999, Slack: 99999, Delay: 0}
	if got := impl.Watch(near, ticksOf("99999 100000 1 0 -99999 -100000 -1 0")); !slices.Equal(got, []int64{0, 11, 11, 10, 10, 9, 9, 10}) {
		t.Error(got)
	}
}

func TestTicksAtAllEdges(t *testing.T) {
	for _, value := range []int64{math.MinInt64, -100001, -100000, -99999, -1, 0, 1, 5, 10, 11, 99999, 100000, 100001, math.MaxInt64} {
		for _, tick := range []impl.Tick{{Value: value}, {Value: value, Known: true}, {Value: value, Heard: true}, {Value: value, Known: true, Heard: true}} {
			told, kept := []int64(nil), []impl.Tick(nil)
			if isTick(tick) {
				told, _ = wantedAlarm(alarmOf(2, 0), []impl.Tick{tick})
				kept = wantedQuiet([]impl.Tick{tick})
			}
			if got := impl.Watch(alarmOf(2, 0), []impl.Tick{tick}); !slices.Equal(got, told) {
				t.Errorf("Watch of %v: %v, want %v", tick, got, told)
			}
			if got := impl.Quiet([]impl.Tick{tick}); !slices.Equal(got, kept) {
				t.Errorf("Quiet of %v: %v, want %v", tick, got, kept)
			}
		}
	}
}

func TestWrongTicks(t *testing.T) {
	right := ticksOf("11 12 !5 ? -1 !? -2")
	for what, tick := range map[string]impl.Tick{
		"a value of 100001":               {Value: 100001, Known: true},
		"a value of -100001":              {Value: -100001, Known: true},
		"the greatest value":              {Value: math.MaxInt64, Known: true},
		"the least value":                 {Value: math.MinInt64, Known: true},
		"a value of 100001, heard":        {Value: 100001, Known: true, Heard: true},
		"a value of 1 that is not known":  {Value: 1},
		"a value of -1 that is not known": {Value: -1},
		"1, not known, heard":             {Value: 1, Heard: true},
		"5, not known, within":            {Value: 5},
		"100001, not known":               {Value: 100001},
		"the least, not known":            {Value: math.MinInt64},
	} {
		checkNoTicks(t, what, []impl.Tick{tick})
		checkNoTicks(t, what+", behind", append(slices.Clone(right), tick))
		checkNoTicks(t, what+", ahead", append([]impl.Tick{tick}, right...))
		checkNoTicks(t, what+", between", slices.Concat(right, []impl.Tick{tick}, right))
		checkNoTicks(t, what+", at the end of many", append(beyondOften(1999), tick))
	}
}

func TestTicksAtTheLimit(t *testing.T) {
	for _, none := range [][]impl.Tick{nil, {}} {
		if len(impl.Watch(alarmOf(2, 0), none)) != 0 || len(impl.Sounded(alarmOf(2, 0), none)) != 0 || len(impl.Quiet(none)) != 0 {
			t.Error("of none")
		}
	}
	for _, count := range []int{1, 2, 1999, 2000} {
		ticks := beyondOften(count)
		checkAlarm(t, alarmOf(2, 1), ticks)
		if got := impl.Watch(alarmOf(2, 1), ticks); len(got) != count {
			t.Errorf("%d of %d", len(got), count)
		}
	}
	for _, count := range []int{2001, 2002, 5000} {
		checkNoTicks(t, "too many", beyondOften(count))
		checkNoTicks(t, "too many quiet ones", make([]impl.Tick, count))
	}
	if got := impl.Watch(alarmOf(2, 1), make([]impl.Tick, 2000)); !slices.Equal(got, make([]int64, 2000)) {
		t.Error("quiet ones at the limit")
	}
}

func TestRandomAlarms(t *testing.T) {
	coins := rand.New(rand.NewSource(70))
	for round := range 4000 {
		ticks := randomTicks(coins, round/40)
		checkAlarm(t, alarmOf(coins.Int63n(6), coins.Int63n(5)), ticks)
		low := coins.Int63n(6)
		narrow := impl.Alarm{High: low + 1 + coins.Int63n(5), Low: low, Delay: coins.Int63n(3)}
		narrow.Slack = coins.Int63n((narrow.High-low)/2 + 1)
		checkAlarm(t, narrow, ticks)
	}
	for range 3 {
		checkAlarm(t, alarmOf(coins.Int63n(6), coins.Int63n(3)), randomTicks(coins, 2000))
	}
}

// All rows of five ticks out of few, so that no turn is left to chance: with the slack 3 the values 8 and 2 stay on their side, with 2 they leave it.
func TestAllShortRows(t *testing.T) {
	few := ticksOf("11 8 5 2 -1 ? !? !11 !-1 !5")
	ticks := make([]impl.Tick, 5)
	for number := range 100000 {
		for at := range ticks {
			ticks[at] = few[number%10]
			number /= 10
		}
		checkAlarm(t, alarmOf(3, 1), ticks)
		checkAlarm(t, alarmOf(2, 0), ticks)
	}
}
