package tests

import (
	"math/rand"
	"regexp"
	"slices"
	"strings"
	"testing"

	"loop.example/g00060/impl"
)

func partOf(name string, fields ...string) impl.Part {
	return impl.Part{Name: name, Fields: fields}
}

func messageOf(parts ...impl.Part) impl.Message { return impl.Message{Parts: parts} }

// aMessage has a part without fields, one with an empty field between, and bytes of all sorts.
func aMessage() impl.Message {
	return messageOf(partOf("MSH", "a|b", "", "\\\n"), partOf("Z9A"), partOf("PID", "\x00\xff\r ~"))
}

func anewMessage(m impl.Message) impl.Message {
	anew := impl.Message{}
	for _, p := range m.Parts {
		anew.Parts = append(anew.Parts, partOf(p.Name, slices.Clone(p.Fields)...))
	}
	return anew
}

func messageAs(change func(m *impl.Message)) impl.Message {
	m := anewMessage(aMessage())
	change(&m)
	return m
}

func samePart(a, b impl.Part) bool { return a.Name == b.Name && slices.Equal(a.Fields, b.Fields) }

func sameMessage(a, b impl.Message) bool { return slices.EqualFunc(a.Parts, b.Parts, samePart) }

var wholeName = regexp.MustCompile(`\A[A-Z][A-Z0-9][A-Z0-9]\z`)

func isMessage(m impl.Message) bool {
	ok := within(int64(len(m.Parts)), 1, 20)
	for _, p := range m.Parts {
		ok = ok && wholeName.MatchString(p.Name) && len(p.Fields) <= 30
		if len(p.Fields) > 0 {
			ok = ok && len(p.Fields[len(p.Fields)-1]) > 0
		}
	}
	return ok
}

func checkMessageOk(t *testing.T, what string, m impl.Message, want bool) {
	t.Helper()
	if got := impl.MessageOk(m); got != want {
		t.Errorf("%s: MessageOk(%q) = %v", what, m, got)
	}
	if told := isMessage(m); told != want {
		t.Errorf("%s: the test itself tells %v of %q", what, told, m)
	}
}

// fieldsTo is so many fields, all of them empty but the last.
func fieldsTo(count int) []string {
	fields := make([]string, count)
	if count > 0 {
		fields[count-1] = "x"
	}
	return fields
}

// randomField is of few bytes, most of them ones that need care.
func randomField(coins *rand.Rand) string {
	field := []byte{}
	for range coins.Intn(6) {
		switch coins.Intn(3) {
		case 0:
			field = append(field, byte(coins.Intn(256)))
		case 1:
			field = append(field, "|\\\r\nFERNX0Dd7"[coins.Intn(13)])
		default:
			field = append(field, "a Z~\x00\x1f\x7f\x80\xff"[coins.Intn(9)])
		}
	}
	return string(field)
}

func randomPartName(coins *rand.Rand) string {
	const signs = "ABCMQYZ0189"
	return string([]byte{signs[coins.Intn(7)], signs[coins.Intn(11)], signs[coins.Intn(11)]})
}

// randomMessage is always one that is right.
func randomMessage(coins *rand.Rand) impl.Message {
	m := impl.Message{}
	for range 1 + coins.Intn(20) {
		p := partOf(randomPartName(coins))
		for range coins.Intn(31) * coins.Intn(2) {
			p.Fields = append(p.Fields, randomField(coins))
		}
		if count := len(p.Fields); count > 0 && p.Fields[count-1] == "" {
			p.Fields[count-1] = "\r"
		}
		m.Parts = append(m.Parts, p)
	}
	return m
}

// spoilMessage makes one part another one, mostly such that it is wrong.
func spoilMessage(coins *rand.Rand, m *impl.Message) {
	p := &m.Parts[coins.Intn(len(m.Parts))]
	switch coins.Intn(6) {
	case 0:
		p.Name = p.Name[:coins.Intn(len(p.Name)+1)]
	case 1:
		p.Name += "A"
	case 2:
		p.Name = strings.ToLower(p.Name)
	case 3:
		p.Fields = append(p.Fields, "")
	case 4:
		p.Fields = fieldsTo(29 + coins.Intn(4))
	default:
		m.Parts = slices.Repeat(m.Parts, 1+coins.Intn(3))
	}
}

func TestMessageConstants(t *testing.T) {
	got := []int64{impl.MaxFields, impl.MaxParts, impl.MaxText, impl.MgLong, impl.MgEnd, impl.MgByte, impl.MgName, impl.MgEscape, impl.MgField, impl.MgMany, impl.MaxSteps, impl.MaxValue}
	if !slices.Equal(got, []int64{30, 20, 20000, 1, 2, 3, 4, 5, 6, 7, 1000, 100000}) {
		t.Fatal(got)
	}
}

func TestHowManyParts(t *testing.T) {
	checkMessageOk(t, "the zero message", impl.Message{}, false)
	checkMessageOk(t, "an empty list", impl.Message{Parts: []impl.Part{}}, false)
	checkMessageOk(t, "all sorts of bytes", aMessage(), true)
	for count := 1; count <= 20; count++ {
		checkMessageOk(t, "so many parts", messageOf(slices.Repeat([]impl.Part{partOf("ABC")}, count)...), true)
	}
	for _, count := range []int{21, 22, 40, 1000} {
		checkMessageOk(t, "too many parts", messageOf(slices.Repeat([]impl.Part{partOf("ABC")}, count)...), false)
	}
}

func TestHowManyFields(t *testing.T) {
	for count := 0; count <= 30; count++ {
		checkMessageOk(t, "so many fields", messageOf(partOf("ABC", fieldsTo(count)...)), true)
	}
	for _, count := range []int{31, 32, 60, 1000} {
		checkMessageOk(t, "too many fields", messageOf(partOf("ABC", fieldsTo(count)...)), false)
	}
	checkMessageOk(t, "an empty list of fields", messageOf(impl.Part{Name: "ABC", Fields: []string{}}), true)
	checkMessageOk(t, "MaxParts with MaxFields", messageOf(slices.Repeat([]impl.Part{partOf("ABC", fieldsTo(30)...)}, 20)...), true)
}

func TestEmptyFields(t *testing.T) {
	checkMessageOk(t, "one field, empty", messageOf(partOf("ABC", "")), false)
	checkMessageOk(t, "the last one empty", messageOf(partOf("ABC", "x", "")), false)
	checkMessageOk(t, "all of them empty", messageOf(partOf("ABC", "", "", "")), false)
	checkMessageOk(t, "the last of MaxFields empty", messageOf(partOf("ABC", append(fieldsTo(29), "")...)), false)
	checkMessageOk(t, "the last of one more empty", messageOf(partOf("ABC", append(fieldsTo(30), "")...)), false)
	checkMessageOk(t, "the first one empty", messageOf(partOf("ABC", "", "x")), true)
	checkMessageOk(t, "one between empty", messageOf(partOf("ABC", "x", "", "y")), true)
	for b := range 256 {
		checkMessageOk(t, "one byte, whichever", messageOf(partOf("ABC", string([]byte{byte(b)}))), true)
	}
	checkMessageOk(t, "a field longer than any text", messageOf(partOf("ABC", strings.Repeat("x", 100000))), true)
}

func TestNamesOfParts(t *testing.T) {
	for _, name := range []string{"ABC", "AAA", "ZZZ", "A00", "Z99", "A0Z", "AZ0", "Q5K"} {
		checkMessageOk(t, "a name", messageOf(partOf(name)), true)
	}
	for _, name := range []string{
		"", "A", "AB", "Z9", "ABCD", "AB12", "ABCABC", "abc", "aBC", "AbC", "ABc", "0AB", "9AB", "012", "1A2", "A B", " AB", "AB ", "ABC ", " ABC", "A-B", "AB|", "|AB", "AB\r", "ABC\r", "\rABC", "ABC\n", "AB\x00", "\\AB", "AÄ", "ÄA", "ÄÖÜ", "AB\xff", "ＡＢＣ",
	} {
		checkMessageOk(t, "no name", messageOf(partOf(name)), false)
		checkMessageOk(t, "no name, with a field", messageOf(partOf(name, "x")), false)
	}
}

// Each byte at each place of a name: those next to the letters and digits on either side are among them.
func TestEachByteOfAName(t *testing.T) {
	for place := range 3 {
		for b := range 256 {
			name := []byte("QRS")
			name[place] = byte(b)
			great, digit := b >= 65 && b <= 90, b >= 48 && b <= 57
			checkMessageOk(t, "a byte of a name", messageOf(partOf(string(name))), great || digit && place > 0)
		}
	}
}

// Wherever the wrong part stands, and whatever is right beside it.
func TestOneWrongPart(t *testing.T) {
	for _, wrong := range []impl.Part{partOf("AB"), partOf("ABCD"), partOf("abc"), partOf("1AB"), partOf("ABC", ""), partOf("ABC", "x", ""), partOf("ABC", fieldsTo(31)...)} {
		for _, count := range []int{1, 2, 3, 20} {
			for place := range count {
				parts := slices.Repeat([]impl.Part{partOf("ABC", "x")}, count)
				checkMessageOk(t, "all right", messageOf(parts...), true)
				parts[place] = wrong
				checkMessageOk(t, "one wrong", messageOf(parts...), false)
			}
		}
	}
}

func TestPartsMayBeAlike(t *testing.T) {
	checkMessageOk(t, "twice the same part", messageOf(partOf("ABC", "x"), partOf("ABC", "x")), true)
	checkMessageOk(t, "twice one name", messageOf(partOf("ABC", "x"), partOf("ABC", "y")), true)
}

func TestManyMessages(t *testing.T) {
	coins := rand.New(rand.NewSource(152))
	told := [2]int{}
	for range 5000 {
		m := randomMessage(coins)
		checkMessageOk(t, "a right one", m, true)
		spoilMessage(coins, &m)
		want := isMessage(m)
		checkMessageOk(t, "a spoilt one", m, want)
		if want {
			told[1]++
		} else {
			told[0]++
		}
	}
	if told[0] < 1000 || told[1] < 500 {
		t.Error(told)
	}
}
