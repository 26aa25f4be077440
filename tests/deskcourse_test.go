package tests

import (
	"math/rand"
	"slices"
	"strconv"
	"strings"
	"testing"

	"loop.example/g00060/impl"
)

// A courseLine is a line, and what the chapters answer then.
type courseLine struct {
	line   string
	answer string
}

// A course goes on a house and a chart by the functions of the chapters themselves, and writes down what the desk should tell.
type course struct {
	t     *testing.T
	house impl.House
	chart impl.Chart
	lines []courseLine
}

func (c *course) tells(line string, answer string) {
	c.lines = append(c.lines, courseLine{line, answer})
}

func (c *course) move(line string, m impl.Move, code int64) {
	house, got := impl.HouseDo(c.house, m)
	if got != code {
		c.t.Errorf("%s: HouseDo tells %d", line, got)
	}
	if c.house = house; code != 0 {
		c.tells(line, "error 2 "+strconv.FormatInt(code, 10))
		return
	}
	c.tells(line, "ok")
}

func (c *course) deed(line string, d impl.Deed, code int64) {
	chart, got := impl.OrderDo(c.chart, d)
	if got != code {
		c.t.Errorf("%s: OrderDo tells %d", line, got)
	}
	c.chart = chart
	switch {
	case code != 0:
		c.tells(line, "error 2 "+strconv.FormatInt(code, 10))
	case d.Kind == impl.DdGive:
		c.tells(line, okWith(chart.Doses[len(chart.Doses)-1].Turn))
	default:
		c.tells(line, "ok")
	}
}

func (c *course) asks(time int64) {
	at := strconv.FormatInt(time, 10)
	c.tells("where 12 "+at, okWith(impl.WhereAt(c.house, 12, time)))
	c.tells("free 1 1", okWith(impl.BedsFree(c.house, 1, impl.BdPlain)...))
	c.tells("free 2 1", okWith(impl.BedsFree(c.house, 2, impl.BdPlain)...))
	due := "ok"
	for _, d := range impl.DueAt(c.chart, time) {
		due += " " + strconv.FormatInt(d.Order, 10) + "." + strconv.FormatInt(d.Turn, 10)
	}
	c.tells("due "+at, due)
}

// aCourse is that of somebody who comes, is ordered something, gets it when it is due, and goes.
func aCourse(t *testing.T) []courseLine {
	c := &course{t: t}
	c.tells("urgency 22 93 105 95 1 -1", okWith(impl.Urgency(impl.Vital{Breaths: 22, Oxygen: 93, Pressure: 105, Pulse: 95, Awake: 1, Heat: -1})))
	for at, bed := range []impl.Bed{{Room: 1, Kind: impl.BdPlain}, {Room: 1, Kind: impl.BdWatched}, {Room: 2, Kind: impl.BdPlain}, {Room: 3, Kind: impl.BdAlone}} {
		c.house.Beds = append(c.house.Beds, bed)
		c.tells("bed "+strconv.FormatInt(bed.Room, 10)+" "+strconv.FormatInt(bed.Kind, 10), okWith(int64(at+1)))
	}
	c.asks(90)
	c.move("in 12 2 1 1 100", impl.Move{Kind: impl.MvIn, Person: 12, Sex: 2, Need: 1, Bed: 1, Time: 100}, 0)
	c.move("in 13 1 1 0 101", impl.Move{Kind: impl.MvIn, Person: 13, Sex: 1, Need: 1, Bed: 0, Time: 101}, impl.HsBed)
	c.move("in 13 1 1 2 101", impl.Move{Kind: impl.MvIn, Person: 13, Sex: 1, Need: 1, Bed: 2, Time: 101}, 0)
	c.asks(101)
	order := impl.Order{Id: 40, Person: 12, Drug: 6, Amount: 250, First: 120, Every: 240, Count: 2, State: impl.OrAsked, Two: true}
	give := impl.Deed{Kind: impl.DdGive, Id: 40, Person: 12, Drug: 6, Amount: 250, Time: 120, By: 20, Also: 21}
	c.deed("ask 40 12 6 250 120 240 2 1", impl.Deed{Kind: impl.DdAsk, Order: order}, 0)
	c.deed("give 40 12 6 250 120 20 21", give, impl.OrState)
	c.asks(119)
	c.deed("ready 40", impl.Deed{Kind: impl.DdReady, Id: 40}, 0)
	c.asks(119)
	give.Person = 13
	c.deed("give 40 13 6 250 120 20 21", give, impl.OrPerson)
	give.Person = 12
	c.deed("give 40 12 6 250 120 20 21", give, 0)
	c.deed("give 40 12 6 250 120 20 21", give, impl.OrTurn)
	c.asks(121)
	c.deed("hold 40", impl.Deed{Kind: impl.DdHold, Id: 40}, 0)
	c.move("to 12 0 200", impl.Move{Kind: impl.MvTo, Person: 12, Bed: 0, Time: 200}, 0)
	c.asks(360)
	c.deed("ready 40", impl.Deed{Kind: impl.DdReady, Id: 40}, 0)
	c.asks(360)
	give.Time, give.Also = 370, -1
	c.deed("give 40 12 6 250 370 20 -1", give, impl.OrTwo)
	give.Also = 999
	c.deed("give 40 12 6 250 370 20 999", give, 0)
	c.asks(371)
	c.deed("end 40", impl.Deed{Kind: impl.DdEnd, Id: 40}, 0)
	c.move("out 12 199", impl.Move{Kind: impl.MvOut, Person: 12, Time: 199}, impl.HsLate)
	c.move("out 12 400", impl.Move{Kind: impl.MvOut, Person: 12, Time: 400}, 0)
	c.move("out 12 401", impl.Move{Kind: impl.MvOut, Person: 12, Time: 401}, impl.HsNone)
	c.asks(399)
	c.asks(400)
	c.tells("urgency 15 97 120 70 1 370", okWith(impl.Urgency(wellVital())))
	return c.lines
}

func linesAndAnswers(list []courseLine) (lines, answers []string) {
	for _, l := range list {
		lines, answers = append(lines, l.line), append(answers, l.answer)
	}
	return lines, answers
}

func TestAWholeCourseAtTheDesk(t *testing.T) {
	lines, answers := linesAndAnswers(aCourse(t))
	checkDeskText(t, "a whole course", textOf(lines...), answers...)
	for count := range lines {
		checkDeskText(t, "its beginning", textOf(lines[:count]...), answers[:count]...)
	}
	for at, want := range map[int]string{1: "ok 1", 4: "ok 4", 5: "ok -1", 6: "ok 0 1 2", 9: "ok", 10: "error 2 6"} {
		if answers[at] != want {
			t.Errorf("%q: %q, want %q", lines[at], answers[at], want)
		}
	}
	if told := strings.Join(answers, ","); strings.Count(told, "ok 40.0") != 1 || strings.Count(told, "ok 40.1") != 1 {
		t.Error(told)
	}
}

// Lines that are answered with an error, one of each kind, do nothing wherever they stand. (A bed is taken where nothing is there yet with which it would not be right.)
func TestErrorsChangeNothingOfACourse(t *testing.T) {
	course := aCourse(t)
	for _, wrong := range []string{
		"nothing", " ", "bed 1", "bed 1 x", "bed 01 1", "bed 1 3", "bed 1000 1", "bed 3 1", "bed 4 4", "in 1000 1 1 0 5000", "in 14 1 1 7 0", "in 14 3 1 0 9999", "in 14 1 1 3 9999", "to 12 7 9999", "to 14 1 9999", "out 14 9999",
		"out 12 -1", "where 12 -1", "free 3 1", "ask 40 12 6 250 120 240 2 2", "ask 41 12 6 250 120 0 2 1", "ask 41 12 6 250 120 240 201 0", "ready 0", "ready 41", "hold 41", "hold 100001", "end 41", "end -1",
		"give 41 12 6 250 120 20 21", "give 40 12 6 250 9999 20 21", "give 40 12 6 251 120 20 21", "give 40 12 6 250 120 20 20", "give 40 12 6 250 360 20 -1", "due -1", "due 10000001",
	} {
		for at := range len(course) + 1 {
			lines, answers := linesAndAnswers(course)
			all := deskLinesOf(checkDeskAsTold(t, "an error between", textOf(slices.Insert(lines, at, wrong)...)))
			refused := len(all) == len(answers)+1 && strings.HasPrefix(all[at], "error ")
			if !refused && at < 5 && strings.HasPrefix(wrong, "bed ") {
				continue
			}
			if !refused || !slices.Equal(slices.Delete(slices.Clone(all), at, at+1), answers) {
				t.Fatalf("%q at %d: %q", wrong, at, all)
			}
		}
	}
}

// deskCoins makes lines that are mostly right at a time that goes on.
type deskCoins struct {
	*rand.Rand
	time int64
}

func (c *deskCoins) numbers(numbers ...int64) string {
	text := ""
	for _, n := range numbers {
		text += " " + strconv.FormatInt(n, 10)
	}
	return text
}

// line has few beds, people and orders, so that they meet.
func (c *deskCoins) line() string {
	if c.time += c.Int63n(6); c.Intn(8) == 0 {
		c.time = max(0, c.time-c.Int63n(12))
	}
	who, bed, id := c.Int63n(4), c.Int63n(5), 1+c.Int63n(4)
	switch c.Intn(13) {
	case 0:
		return "bed" + c.numbers(c.Int63n(4), 1+c.Int63n(3))
	case 1, 2:
		return "in" + c.numbers(who, 1+c.Int63n(2), []int64{1, 1, 2, 3}[c.Intn(4)], bed, c.time)
	case 3:
		return "to" + c.numbers(who, bed, c.time)
	case 4:
		return "out" + c.numbers(who, c.time)
	case 5:
		return "where" + c.numbers(who, max(0, c.time-c.Int63n(20)))
	case 6:
		return "free" + c.numbers(1+c.Int63n(2), 1+c.Int63n(3))
	case 7:
		return "ask" + c.numbers(id, id%3, 2, 1+c.Int63n(5)/4, c.time+c.Int63n(40), 5+c.Int63n(40), 1+c.Int63n(4), c.Int63n(2))
	case 8:
		return []string{"ready", "ready", "ready", "hold", "end"}[c.Intn(5)] + c.numbers(id)
	case 9, 10:
		return "give" + c.numbers(id, id%3, 2+c.Int63n(10)/9, 1+c.Int63n(5)/4, c.time, 5, []int64{-1, -1, 6, 6, 5}[c.Intn(5)])
	case 11:
		return "due" + c.numbers(c.time)
	}
	v := randomVital(c.Rand)
	n := []int64{v.Breaths, v.Oxygen, v.Pressure, v.Pulse, v.Awake, v.Heat}
	for at := range n {
		n[at] = min(max(n[at], -999999999), 999999999)
	}
	return "urgency" + c.numbers(n...)
}

// spoiltLine has a word that is another one, lacks or stands there twice.
func (c *deskCoins) spoiltLine(line string) string {
	words := strings.Split(line, " ")
	at := c.Intn(len(words))
	switch c.Intn(4) {
	case 0:
		words = slices.Delete(words, at, at+1)
	case 1:
		words = slices.Insert(words, at, words[at])
	case 2:
		words[at] = strconv.FormatInt(deskEdges()[c.Intn(len(deskEdges()))], 10)
	default:
		words[at] = []string{"", "-", "+1", "01", "-0", "x", "1000000000", "bed", "in", "due"}[c.Intn(10)]
	}
	return strings.Join(words, " ")
}

func (c *deskCoins) text(lines int) string {
	text := ""
	for range lines {
		line := c.line()
		switch c.Intn(12) {
		case 0:
			line = c.spoiltLine(line)
		case 1:
			text += strings.Repeat("\n", c.Intn(3))
		}
		text += line + "\n"
	}
	if c.Intn(2) == 0 {
		text = strings.TrimSuffix(text, "\n")
	}
	return text
}

// withoutErrors are the lines that were answered with ok, and their answers.
func withoutErrors(text, answers string) (string, string) {
	lines := slices.DeleteFunc(deskLinesOf(text), func(line string) bool { return line == "" })
	kept, told := "", ""
	for at, answer := range deskLinesOf(answers) {
		if strings.HasPrefix(answer, "ok") {
			kept, told = kept+lines[at]+"\n", told+answer+"\n"
		}
	}
	return kept, told
}

// answerKinds counts what each first word was answered with, ok or an error with its numbers.
func answerKinds(kinds map[string]int, text, answers string) {
	lines := slices.DeleteFunc(deskLinesOf(text), func(line string) bool { return line == "" })
	for at, answer := range deskLinesOf(answers) {
		word, _, _ := strings.Cut(lines[at], " ")
		if strings.HasPrefix(answer, "ok") {
			answer = "ok"
		}
		kinds[word+": "+answer]++
	}
}

func TestDeskTellsWhatTheChaptersTell(t *testing.T) {
	kinds := map[string]int{}
	for seed := range int64(600) {
		coins := &deskCoins{Rand: rand.New(rand.NewSource(seed))}
		text := coins.text(coins.Intn(210))
		answers := checkDeskAsTold(t, "lines by coins", text)
		answerKinds(kinds, text, answers)
		kept, told := withoutErrors(text, answers)
		if got := impl.Desk(kept); got != told {
			t.Fatalf("seed %d: without the lines that were refused it tells %q, with them %q", seed, got, told)
		}
	}
	for _, kind := range []string{
		"bed: ok", "bed: error 1", "bed: error 3", "in: ok", "in: error 1", "in: error 2 2", "in: error 2 3", "in: error 2 4", "in: error 2 6", "to: ok", "to: error 1", "to: error 2 2", "to: error 2 3", "to: error 2 5", "to: error 2 6",
		"out: ok", "out: error 1", "out: error 2 2", "out: error 2 3", "out: error 2 5", "where: ok", "where: error 1", "where: error 3", "free: ok", "free: error 1", "free: error 3", "ask: ok", "ask: error 1", "ask: error 2 2", "ask: error 2 3",
		"ready: ok", "ready: error 1", "ready: error 2 2", "ready: error 2 4", "ready: error 2 5", "hold: ok", "hold: error 1", "hold: error 2 4", "hold: error 2 5", "end: ok", "end: error 1", "end: error 2 4", "end: error 2 5",
		"give: ok", "give: error 1", "give: error 2 2", "give: error 2 4", "give: error 2 5", "give: error 2 6", "give: error 2 7", "give: error 2 8", "give: error 2 9", "give: error 2 10", "give: error 2 11",
		"due: ok", "due: error 1", "due: error 3", "urgency: ok", "urgency: error 1",
	} {
		if kinds[kind] == 0 {
			t.Errorf("no line came about with %q", kind)
		}
	}
}

// Texts of bytes that are no lines are answered too.
func TestAnyTextAtTheDesk(t *testing.T) {
	coins := rand.New(rand.NewSource(17))
	pieces := []string{"bed", "in", "out", "due", "give", " ", " ", " ", "\n", "\n", "0", "1", "2", "-1", "-", "10000000", "\r", "\x00", "\xff", "é", "where", "free", "urgency", "ask"}
	for range 3000 {
		var text strings.Builder
		for range coins.Intn(60) {
			text.WriteString(pieces[coins.Intn(len(pieces))])
		}
		checkDeskAsTold(t, "pieces by coins", text.String())
		checkDeskAsTold(t, "bytes by coins", string(randomBytes(coins, coins.Intn(200))))
	}
}

// A desk keeps nothing from text to text.
func TestDesksForgetEachOther(t *testing.T) {
	lines, answers := linesAndAnswers(aCourse(t))
	text := textOf(lines...)
	for range 3 {
		checkDeskText(t, "again", text, answers...)
		checkDeskText(t, "another one", "where 12 100\nfree 1 1\ndue 120\nready 40\nbed 3 1", "ok -1", "ok", "ok", "error 2 4", "ok 1")
	}
}
