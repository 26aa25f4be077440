package tests

import (
	"fmt"
	"math/rand"
	"slices"
	"strings"
	"testing"

	"loop.example/g00060/impl"
)

// wantedByte is how a byte is written in a field.
func wantedByte(b byte) string {
	switch own := map[byte]string{124: `\F\`, 92: `\E\`, 13: `\R\`, 10: `\N\`}[b]; {
	case own != "":
		return own
	case b < 32 || b > 126:
		return fmt.Sprintf(`\X%02X\`, b)
	}
	return string([]byte{b})
}

func wantedShow(m impl.Message) string {
	if !isMessage(m) {
		return ""
	}
	text := strings.Builder{}
	for _, p := range m.Parts {
		text.WriteString(p.Name)
		for _, field := range p.Fields {
			text.WriteString("|")
			for _, b := range []byte(field) {
				text.WriteString(wantedByte(b))
			}
		}
		text.WriteString("\r")
	}
	if text.Len() > 20000 {
		return ""
	}
	return text.String()
}

func checkShow(t *testing.T, what string, m impl.Message, want string) {
	t.Helper()
	if got := impl.ShowMessage(m); got != want {
		t.Errorf("%s: ShowMessage(%.300q) = %.300q, want %.300q", what, fmt.Sprint(m), got, want)
	}
	if told := wantedShow(m); told != want {
		t.Errorf("%s: the test itself tells %.300q, want %.300q", what, told, want)
	}
	if want != "" {
		checkReadMessage(t, what, want, m)
	}
}

func TestShowMessage(t *testing.T) {
	checkShow(t, "one part without fields", messageOf(partOf("ABC")), "ABC\r")
	checkShow(t, "one field", messageOf(partOf("ABC", "x")), "ABC|x\r")
	checkShow(t, "two fields", messageOf(partOf("ABC", "x", "yz")), "ABC|x|yz\r")
	checkShow(t, "an empty field between", messageOf(partOf("ABC", "x", "", "", "y")), "ABC|x|||y\r")
	checkShow(t, "an empty field first", messageOf(partOf("ABC", "", "x")), "ABC||x\r")
	checkShow(t, "two parts", messageOf(partOf("Z09", "x"), partOf("ABC")), "Z09|x\rABC\r")
	checkShow(t, "all sorts", aMessage(), "MSH|a\\F\\b||\\E\\\\N\\\rZ9A\rPID|\\X00\\\\XFF\\\\R\\ ~\r")
	checkShow(t, "a field like a part", messageOf(partOf("ABC", "DEF|x\r")), `ABC|DEF\F\x\R\`+"\r")
	checkShow(t, "MaxFields fields", messageOf(partOf("ABC", fieldsTo(30)...)), "ABC"+strings.Repeat("|", 30)+"x\r")
	checkShow(t, "MaxParts parts", messageOf(slices.Repeat([]impl.Part{partOf("ABC")}, 20)...), strings.Repeat("ABC\r", 20))
	checkShow(t, "more than one byte to a sign", messageOf(partOf("ABC", "é€")), `ABC|\XC3\\XA9\\XE2\\X82\\XAC\`+"\r")
}

func TestEachEscapeShown(t *testing.T) {
	for field, want := range map[string]string{
		"|": `\F\`, "\\": `\E\`, "\r": `\R\`, "\n": `\N\`, "\x00": `\X00\`, "\t": `\X09\`, "\v": `\X0B\`, "\f": `\X0C\`, "\x0e": `\X0E\`, "\x1f": `\X1F\`, " ": " ", "~": "~", "\x7f": `\X7F\`, "\x80": `\X80\`, "\xab": `\XAB\`, "\xff": `\XFF\`,
		"||": `\F\\F\`, "\\\\": `\E\\E\`, "\r\n": `\R\\N\`, "a|b\\c": `a\F\b\E\c`, "\xff\x00": `\XFF\\X00\`,
	} {
		checkShow(t, "an escape", messageOf(partOf("ABC", field)), "ABC|"+want+"\r")
		checkShow(t, "an escape between fields", messageOf(partOf("ABC", "x", field, "y"), partOf("DEF")), "ABC|x|"+want+"|y\rDEF\r")
	}
}

// What looks like an escape in a field is read back as just that.
func TestFieldsThatLookLikeEscapes(t *testing.T) {
	for _, like := range []string{`\F\`, `\E\`, `\R\`, `\N\`, `\X00\`, `\XFF\`, `\X41\`, `\X0D\`, `\`, `\\`, `\\\`, `F`, `X00`, `E\`, `\E`} {
		want := strings.ReplaceAll(like, `\`, `\E\`)
		checkShow(t, "like an escape", messageOf(partOf("ABC", like)), "ABC|"+want+"\r")
		checkShow(t, "like an escape twice", messageOf(partOf("ABC", like, like+like)), "ABC|"+want+"|"+want+want+"\r")
	}
}

func TestEachByteShown(t *testing.T) {
	all := []byte{}
	for b := range 256 {
		one := string([]byte{byte(b)})
		checkShow(t, "a byte alone", messageOf(partOf("ABC", one)), "ABC|"+wantedByte(byte(b))+"\r")
		checkShow(t, "a byte between", messageOf(partOf("ABC", "x"+one+"y", one+one)), "ABC|x"+wantedByte(byte(b))+"y|"+wantedByte(byte(b))+wantedByte(byte(b))+"\r")
		all = append(all, byte(b))
	}
	m := messageOf(partOf("ABC", string(all)))
	checkShow(t, "all bytes", m, wantedShow(m))
}

// longText is a message of one part whose text has just so many bytes.
func longText(length int) impl.Message {
	return messageOf(partOf("ABC", strings.Repeat("x", length-5)))
}

func TestLongestTexts(t *testing.T) {
	for _, length := range []int{6, 19999, 20000} {
		checkShow(t, "not too long", longText(length), "ABC|"+strings.Repeat("x", length-5)+"\r")
	}
	for _, length := range []int{20001, 20002, 20003, 20004, 30000, 1000000} {
		checkShow(t, "too long", longText(length), "")
	}
	// 5 bytes beside the field, of which each escape has 5 or 3.
	checkShow(t, "by long escapes", messageOf(partOf("ABC", strings.Repeat("\x00", 3999))), "ABC|"+strings.Repeat(`\X00\`, 3999)+"\r")
	checkShow(t, "too long by long escapes", messageOf(partOf("ABC", strings.Repeat("\x00", 3999)+"x")), "")
	checkShow(t, "by short escapes", messageOf(partOf("ABC", strings.Repeat("|", 6665))), "ABC|"+strings.Repeat(`\F\`, 6665)+"\r")
	checkShow(t, "too long by short escapes", messageOf(partOf("ABC", strings.Repeat("|", 6665)+"x")), "")
	checkShow(t, "too long by the last escape", messageOf(partOf("ABC", strings.Repeat("x", 19994)+"|")), "")
	checkShow(t, "an escape at the end", messageOf(partOf("ABC", strings.Repeat("x", 19992)+"|")), "ABC|"+strings.Repeat("x", 19992)+"\\F\\\r")
}

func TestLongestTextsOfManyParts(t *testing.T) {
	first := strings.Repeat("x", 9990)
	for last, want := range map[int]bool{10002: true, 10003: true, 10004: false, 10005: false} {
		m := messageOf(partOf("ABC", first), partOf("DEF", strings.Repeat("y", last-5), "z"))
		text := "ABC|" + first + "\rDEF|" + strings.Repeat("y", last-5) + "|z\r"
		if !want {
			text = ""
		}
		if len(text) > 20000 || want && len(text) < 19999 {
			t.Fatal(len(text))
		}
		checkShow(t, "two parts", m, text)
	}
	checkShow(t, "a part without fields at the end", messageOf(partOf("ABC", strings.Repeat("x", 19991)), partOf("DEF")), "ABC|"+strings.Repeat("x", 19991)+"\rDEF\r")
	checkShow(t, "one more byte ahead of it", messageOf(partOf("ABC", strings.Repeat("x", 19992)), partOf("DEF")), "")
	checkShow(t, "too long in the first of many", messageOf(append([]impl.Part{partOf("ABC", strings.Repeat("x", 30000))}, slices.Repeat([]impl.Part{partOf("DEF", fieldsTo(30)...)}, 19)...)...), "")
}

// MaxParts parts of MaxFields fields each, with just as many bytes as a text may have, and one more.
func TestLongestTextsOfManyFields(t *testing.T) {
	parts := []impl.Part{}
	for range 20 {
		p := partOf("ABC")
		for range 30 {
			p.Fields = append(p.Fields, strings.Repeat("x", 32))
		}
		parts = append(parts, p)
	}
	m := messageOf(parts...)
	room := 20000 - len(wantedShow(m))
	if room < 0 || room > 200 {
		t.Fatal(room)
	}
	m.Parts[19].Fields[29] += strings.Repeat("y", room)
	text := impl.ShowMessage(m)
	if len(text) != 20000 {
		t.Fatal(len(text))
	}
	checkShow(t, "all full", m, wantedShow(m))
	for place := range 20 {
		one := anewMessage(m)
		one.Parts[place].Fields[7*place%30] += "z"
		checkShow(t, "one more byte", one, "")
	}
}

func TestShowWhatIsNoMessage(t *testing.T) {
	for _, m := range []impl.Message{
		{}, {Parts: []impl.Part{}}, {Parts: make([]impl.Part, 1)}, messageOf(partOf("AB")), messageOf(partOf("ABCD")), messageOf(partOf("abc")), messageOf(partOf("0AB")), messageOf(partOf("ABC", "")), messageOf(partOf("ABC", "x", "")), messageOf(partOf("ABC", fieldsTo(31)...)),
		messageOf(slices.Repeat([]impl.Part{partOf("ABC")}, 21)...), messageAs(func(m *impl.Message) { m.Parts[2].Name = "PI" }), messageAs(func(m *impl.Message) { m.Parts[1].Fields = []string{""} }), messageAs(func(m *impl.Message) { m.Parts[0].Fields[2] = "" }),
	} {
		checkShow(t, "no message", m, "")
	}
}

func TestShowManyMessages(t *testing.T) {
	coins := rand.New(rand.NewSource(153))
	for range 3000 {
		m := randomMessage(coins)
		checkShow(t, "a right one", m, wantedShow(m))
		spoilMessage(coins, &m)
		checkShow(t, "a spoilt one", m, wantedShow(m))
	}
}

// Two messages have never one text.
func TestTextsTellMessagesApart(t *testing.T) {
	shown := map[string]impl.Message{}
	signs := []string{"", "a", "|", "\\", "\r", "\n", "F", "\\F\\", "\x0d\x0a", "X0D", "\x00"}
	for _, a := range signs {
		for _, b := range signs {
			for _, m := range []impl.Message{messageOf(partOf("ABC", a+b+"!")), messageOf(partOf("ABC", a, b+"!")), messageOf(partOf("ABC", a, b, "!")), messageOf(partOf("ABC", a+"!"), partOf("ABC", b+"!"))} {
				text := impl.ShowMessage(m)
				if other, there := shown[text]; there && !sameMessage(m, other) {
					t.Fatalf("%q is the text of %q and %q", text, m, other)
				}
				shown[text] = m
			}
		}
	}
}
