package tests

import (
	"regexp"
	"slices"
	"strconv"
	"strings"
	"testing"

	"loop.example/g00060/impl"
)

// deskChapters are the functions of the chapters that a desk tells of.
type deskChapters struct {
	houseOk func(h impl.House) bool
	move    func(h impl.House, m impl.Move) (impl.House, int64)
	where   func(h impl.House, person, time int64) int64
	free    func(h impl.House, sex, need int64) []int64
	deed    func(c impl.Chart, d impl.Deed) (impl.Chart, int64)
	due     func(c impl.Chart, time int64) []impl.Due
	urgency func(v impl.Vital) int64
}

// asAnswered are the chapters as the program answers, asTold as their own tests read the document.
var asAnswered = deskChapters{impl.HouseOk, impl.HouseDo, impl.WhereAt, impl.BedsFree, impl.OrderDo, impl.DueAt, impl.Urgency}
var asTold = deskChapters{isHouse, wantedMove, wantedWhere, wantedFree, wantedDeed, wantedDue, wantedUrgency}

// numbersOf tells how many numbers each line of the document's table has.
var numbersOf = map[string]int{
	"bed": 2, "in": 5, "to": 3, "out": 2, "where": 2, "free": 2, "ask": 8, "ready": 1, "hold": 1, "end": 1, "give": 7, "due": 1, "urgency": 6,
}

var deskNumber = regexp.MustCompile(`^(0|-?[1-9][0-9]{0,8})$`)

// A wantedDesk is led on line by line.
type wantedDesk struct {
	chapters deskChapters
	house    impl.House
	chart    impl.Chart
}

func okWith(numbers ...int64) string {
	answer := "ok"
	for _, n := range numbers {
		answer += " " + strconv.FormatInt(n, 10)
	}
	return answer
}

func (d *wantedDesk) moved(m impl.Move) string {
	house, code := d.chapters.move(d.house, m)
	if code != 0 {
		return "error 2 " + strconv.FormatInt(code, 10)
	}
	d.house = house
	return "ok"
}

func (d *wantedDesk) done(deed impl.Deed) string {
	chart, code := d.chapters.deed(d.chart, deed)
	if code != 0 {
		return "error 2 " + strconv.FormatInt(code, 10)
	}
	d.chart = chart
	if deed.Kind == 5 {
		return okWith(chart.Doses[len(chart.Doses)-1].Turn)
	}
	return "ok"
}

func (d *wantedDesk) withBed(room, kind int64) string {
	house := anewHouse(d.house)
	house.Beds = append(house.Beds, impl.Bed{Room: room, Kind: kind})
	if !d.chapters.houseOk(house) {
		return "error 3"
	}
	d.house = house
	return okWith(int64(len(house.Beds)))
}

func (d *wantedDesk) dueAt(time int64) string {
	answer := "ok"
	for _, due := range d.chapters.due(d.chart, time) {
		answer += " " + strconv.FormatInt(due.Order, 10) + "." + strconv.FormatInt(due.Turn, 10)
	}
	return answer
}

// readLine tells a line's first word and its numbers, if it is a line of the table.
func readLine(line string) (string, []int64, bool) {
	words := strings.Split(line, " ")
	count, known := numbersOf[words[0]]
	if !known || len(words) != 1+count {
		return "", nil, false
	}
	n := []int64{}
	for _, word := range words[1:] {
		if !deskNumber.MatchString(word) {
			return "", nil, false
		}
		number, _ := strconv.Atoi(word)
		n = append(n, int64(number))
	}
	return words[0], n, words[0] != "ask" || within(n[7], 0, 1)
}

// answer has a case for each line of the document's table.
func (d *wantedDesk) answer(line string) string {
	word, n, ok := readLine(line)
	if !ok {
		return "error 1"
	}
	switch word {
	case "bed":
		return d.withBed(n[0], n[1])
	case "in":
		return d.moved(impl.Move{Kind: 1, Person: n[0], Sex: n[1], Need: n[2], Bed: n[3], Time: n[4]})
	case "to":
		return d.moved(impl.Move{Kind: 2, Person: n[0], Bed: n[1], Time: n[2]})
	case "out":
		return d.moved(impl.Move{Kind: 3, Person: n[0], Time: n[1]})
	case "where":
		if within(n[0], 0, 999) && within(n[1], 0, 10000000) {
			return okWith(d.chapters.where(d.house, n[0], n[1]))
		}
	case "free":
		if within(n[0], 1, 2) && within(n[1], 1, 3) {
			return okWith(d.chapters.free(d.house, n[0], n[1])...)
		}
	case "ask":
		order := impl.Order{Id: n[0], Person: n[1], Drug: n[2], Amount: n[3], First: n[4], Every: n[5], Count: n[6], State: 1, Two: n[7] == 1}
		return d.done(impl.Deed{Kind: 1, Order: order})
	case "ready":
		return d.done(deedOf(2, n[0]))
	case "hold":
		return d.done(deedOf(3, n[0]))
	case "end":
		return d.done(deedOf(4, n[0]))
	case "give":
		return d.done(impl.Deed{Kind: 5, Id: n[0], Person: n[1], Drug: n[2], Amount: n[3], Time: n[4], By: n[5], Also: n[6]})
	case "due":
		if within(n[0], 0, 10000000) {
			return d.dueAt(n[0])
		}
	case "urgency":
		return okWith(d.chapters.urgency(impl.Vital{Breaths: n[0], Oxygen: n[1], Pressure: n[2], Pulse: n[3], Awake: n[4], Heat: n[5]}))
	}
	return "error 3"
}

// deskLinesOf cuts a text behind each byte 10; what is behind the last one is a line where it has bytes.
func deskLinesOf(text string) []string {
	lines := []string{}
	for text != "" {
		line, rest, _ := strings.Cut(text, "\n")
		lines, text = append(lines, line), rest
	}
	return lines
}

func wantedAnswers(chapters deskChapters, text string) string {
	lines := deskLinesOf(text)
	if len(text) > 20000 || len(lines) > 200 {
		return ""
	}
	desk, answers := wantedDesk{chapters: chapters}, ""
	for _, line := range lines {
		if line != "" {
			answers += desk.answer(line) + "\n"
		}
	}
	return answers
}

// checkDeskAsTold holds Desk against what the chapters answer, and against what the document asks of them.
func checkDeskAsTold(t *testing.T, what string, text string) string {
	t.Helper()
	got := impl.Desk(text)
	if want := wantedAnswers(asAnswered, text); got != want {
		t.Fatalf("%s: Desk(%q) = %q, the chapters tell %q", what, text, got, want)
	}
	if want := wantedAnswers(asTold, text); got != want {
		t.Fatalf("%s: Desk(%q) = %q, want %q", what, text, got, want)
	}
	return got
}

// textOf ends each line.
func textOf(lines ...string) string {
	text := ""
	for _, line := range lines {
		text += line + "\n"
	}
	return text
}

func checkDeskText(t *testing.T, what string, text string, answers ...string) {
	t.Helper()
	if got := checkDeskAsTold(t, what, text); got != textOf(answers...) {
		t.Errorf("%s: Desk(%q) = %q, want the lines %q", what, text, got, answers)
	}
}

// checkLines has lines that stand behind others, whose answers are not looked at.
func checkLines(t *testing.T, what string, ahead []string, lines []string, answers ...string) {
	t.Helper()
	all := deskLinesOf(checkDeskAsTold(t, what, textOf(slices.Concat(ahead, lines)...)))
	if len(all) < len(ahead) || !slices.Equal(all[len(ahead):], answers) {
		t.Errorf("%s: behind %q the lines %q are answered by %q, want %q at the end", what, ahead, lines, all, answers)
	}
}

func TestTheLinesOfADesk(t *testing.T) {
	checkDeskText(t, "no text", "")
	checkDeskText(t, "a byte 10 alone", "\n")
	checkDeskText(t, "bytes 10 alone", "\n\n\n")
	checkDeskText(t, "a last line that is ended", "bed 1 1\nbed 1 1\n", "ok 1", "ok 2")
	checkDeskText(t, "a last line that is not", "bed 1 1\nbed 1 1", "ok 1", "ok 2")
	checkDeskText(t, "a line alone that is not ended", "bed 1 1", "ok 1")
	checkDeskText(t, "a last line without a byte", "bed 1 1\n\n", "ok 1")
	checkDeskText(t, "a first line without a byte", "\nbed 1 1", "ok 1")
	checkDeskText(t, "lines without a byte between", "\n\nbed 1 1\n\n\n\nnothing\n\nbed 1 1\n\n\n", "ok 1", "error 1", "ok 2")
	checkDeskText(t, "an error at the end", "bed 1 1\nnothing", "ok 1", "error 1")
	checkDeskText(t, "each desk begins anew", "free 1 1\nwhere 4 0\ndue 0", "ok", "ok -1", "ok")
}

func TestBlanksAtADesk(t *testing.T) {
	for _, line := range []string{
		" ", "  ", " bed 1 1", "bed 1 1 ", "bed  1 1", "bed 1  1", "  bed 1 1", "bed 1 1  ", "bed ", "bed  ", "bed 1 ", " 1 1", "bed  1", "due  1", "due ", " due",
		"bed\t1 1", "bed 1 1\t", "bed 1 1\r", "bed 1\x001", "bed 1 1\x00", "bed 1,1", "bed\u00a01 1", "\r", "\t", "\x00",
	} {
		checkDeskText(t, "blanks", line, "error 1")
		checkDeskText(t, "blanks between right lines", textOf("bed 1 1", line, "bed 1 1"), "ok 1", "error 1", "ok 2")
	}
}

func TestFirstWordsThatAreNone(t *testing.T) {
	for _, word := range []string{
		"nothing", "BED", "Bed", "be", "beds", "bed.", "-bed", "1", "-1", "0", "ok", "error", "In", "intake", "t", "o", "ou", "outs", "wher", "Free", "asks", "unready",
		"held", "ended", "gave", "dues", "urgent", "b\x00d", "\xff", "bed\r", "béd", "|", "#",
	} {
		for count := range 10 {
			line := word + strings.Repeat(" 1", count)
			checkDeskText(t, "a first word that is none", line, "error 1")
			checkDeskText(t, "one between right lines", textOf("bed 1 1", line, "bed 1 1"), "ok 1", "error 1", "ok 2")
		}
	}
}

func TestMostBytesOfADesk(t *testing.T) {
	for _, text := range []string{"bed 1 1\n", "bed 1 1\nfree 1 1\n"} {
		answers := checkDeskAsTold(t, "a text", text)
		for _, end := range []string{"", "\n"} {
			full := text + strings.Repeat("x", impl.MaxText-len(text)-len(end)) + end
			if got := checkDeskAsTold(t, "as many bytes as may be", full); len(full) != 20000 || got != answers+"error 1\n" {
				t.Errorf("%d bytes: %q", len(full), got)
			}
			checkDeskText(t, "a byte more", full+"x")
			checkDeskText(t, "a byte 10 more", full+"\n")
			checkDeskText(t, "a byte more ahead", "x"+full)
		}
	}
	checkDeskText(t, "bytes 10 alone, too many lines", strings.Repeat("\n", impl.MaxText))
	checkDeskText(t, "blanks alone", strings.Repeat(" ", impl.MaxText), "error 1")
	checkDeskText(t, "blanks alone, one more", strings.Repeat(" ", impl.MaxText+1))
	checkDeskText(t, "a long text", strings.Repeat("bed 1 1 ", 1<<18))
	checkDeskText(t, "a right line with a number of very many digits", "due "+strings.Repeat("9", impl.MaxText-4), "error 1")
	checkDeskText(t, "noughts alone", "due "+strings.Repeat("0", impl.MaxText-4), "error 1")
}

// What is told may be longer than what is asked.
func TestLongAnswersOfADesk(t *testing.T) {
	lines := slices.Concat(slices.Repeat([]string{"bed 7 1"}, 100), slices.Repeat([]string{"free 2 1"}, 100))
	if got := checkDeskAsTold(t, "beds and asking for them", textOf(lines...)); len(got) <= 20000 {
		t.Errorf("%d bytes", len(got))
	}
}

func TestMostLinesOfADesk(t *testing.T) {
	full := strings.Repeat("due 1\n", impl.MaxLines)
	answers := slices.Repeat([]string{"ok"}, 200)
	checkDeskText(t, "as many lines as may be", full, answers...)
	checkDeskText(t, "the last one not ended", strings.TrimSuffix(full, "\n"), answers...)
	checkDeskText(t, "a line more", full+"due 1\n")
	checkDeskText(t, "a line more that is not ended", full+"due 1")
	checkDeskText(t, "a line more of one byte", full+"x")
	checkDeskText(t, "a line more without a byte", full+"\n")
	checkDeskText(t, "a line more without a byte, ahead", "\n"+full)
	checkDeskText(t, "lines without a byte", strings.Repeat("\n", 200))
	checkDeskText(t, "lines without a byte, one more", strings.Repeat("\n", 201))
	checkDeskText(t, "lines without a byte, and one that is not ended", strings.Repeat("\n", 199)+"due 1", "ok")
	checkDeskText(t, "lines without a byte, and one that is not ended, one more", strings.Repeat("\n", 200)+"due 1")
	between := strings.Repeat("due 1\n\n", 100)
	checkDeskText(t, "lines without a byte between", between, answers[:100]...)
	checkDeskText(t, "lines without a byte between, one more", between+"\n")
	checkDeskText(t, "lines without a byte between, one more that is not ended", between+"due 1")
	checkDeskText(t, "lines that are none count", strings.Repeat("x\n", 199)+"due 1\n", append(slices.Repeat([]string{"error 1"}, 199), "ok")...)
	checkDeskText(t, "lines that are none count, one more", strings.Repeat("x\n", 200)+"due 1\n")
}

// A house may have as many beds as a text may have lines: no text gets as far as to ask for one bed too many.
func TestMostBedsOfADesk(t *testing.T) {
	answers := []string{}
	for count := range int64(impl.MaxBeds) {
		answers = append(answers, okWith(count+1))
	}
	beds := strings.Repeat("bed 7 1\n", impl.MaxBeds)
	checkDeskText(t, "as many beds as may be", beds, answers...)
	checkDeskText(t, "a bed more, and so a line more", beds+"bed 7 1\n")
	checkDeskText(t, "a bed less, and the last one asked for", strings.Repeat("bed 7 1\n", 198)+"bed 8 2\nfree 1 2\n", append(answers[:199:199], "ok 198")...)
	rooms := []string{}
	for room := range 200 {
		rooms = append(rooms, "bed "+strconv.Itoa(room*5)+" "+strconv.Itoa(1+room%3))
	}
	checkDeskText(t, "as many rooms", textOf(rooms...), answers...)
}
