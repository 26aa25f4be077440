package tests

import (
	"math/rand"
	"regexp"
	"slices"
	"strconv"
	"strings"
	"testing"

	"loop.example/g00060/impl"
)

var nameAhead = regexp.MustCompile(`\A[A-Z][A-Z0-9][A-Z0-9](\||\z)`)

var escapeAhead = regexp.MustCompile(`\A\\(F|E|R|N|X(0[0-9BCEF]|1[0-9A-F]|7F|[89A-F][0-9A-F]))\\`)

func faultOf(code, at int) impl.MsgFault { return impl.MsgFault{Code: int64(code), At: int64(at)} }

// firstWrongByte is -1 where there is none.
func firstWrongByte(text string) int {
	for at, b := range []byte(text) {
		if b < 32 && b != 13 || b > 126 {
			return at
		}
	}
	return -1
}

// firstWrongEscape is -1 where there is none.
func firstWrongEscape(text string) int {
	at := 0
	for {
		next := strings.Index(text[at:], `\`)
		if next < 0 {
			return -1
		}
		at += next
		found := escapeAhead.FindString(text[at:])
		if found == "" {
			return at
		}
		at += len(found)
	}
}

// partsIn is the parts of a text without their ends, and where each begins.
func partsIn(text string) (parts []string, begins []int) {
	at := 0
	for _, part := range strings.Split(strings.TrimSuffix(text, "\r"), "\r") {
		parts, begins = append(parts, part), append(begins, at)
		at += len(part) + 1
	}
	return parts, begins
}

func wrongFields(part string) bool {
	fields := strings.Split(part, "|")[1:]
	return len(fields) > 30 || len(fields) > 0 && fields[len(fields)-1] == ""
}

// wantedFaults is all that is wrong with a text, the first place of each code; the first of them is told.
func wantedFaults(text string) []impl.MsgFault {
	faults := []impl.MsgFault{}
	if len(text) > 20000 {
		faults = append(faults, faultOf(1, 0))
	}
	if text == "" || text[len(text)-1] != 13 {
		faults = append(faults, faultOf(2, len(text)))
	}
	if at := firstWrongByte(text); at >= 0 {
		faults = append(faults, faultOf(3, at))
	}
	parts, begins := partsIn(text)
	if at := slices.IndexFunc(parts, func(part string) bool { return !nameAhead.MatchString(part) }); at >= 0 {
		faults = append(faults, faultOf(4, begins[at]))
	}
	if at := firstWrongEscape(text); at >= 0 {
		faults = append(faults, faultOf(5, at))
	}
	if at := slices.IndexFunc(parts, wrongFields); at >= 0 {
		faults = append(faults, faultOf(6, begins[at]))
	}
	if len(parts) > 20 {
		faults = append(faults, faultOf(7, len(text)))
	}
	return faults
}

// withoutEscapes wants a text in which each escape is right.
func withoutEscapes(field string) string {
	read := []byte{}
	for len(field) > 0 {
		found := escapeAhead.FindString(field)
		switch len(found) {
		case 0:
			read, found = append(read, field[0]), field[:1]
		case 3:
			read = append(read, map[byte]byte{'F': 124, 'E': 92, 'R': 13, 'N': 10}[found[1]])
		default:
			n, _ := strconv.ParseUint(found[2:4], 16, 8)
			read = append(read, byte(n))
		}
		field = field[len(found):]
	}
	return string(read)
}

// wantedMessage wants a text without faults.
func wantedMessage(text string) impl.Message {
	m := impl.Message{}
	parts, _ := partsIn(text)
	for _, part := range parts {
		words := strings.Split(part, "|")
		for at := range words {
			words[at] = withoutEscapes(words[at])
		}
		m.Parts = append(m.Parts, partOf(words[0], words[1:]...))
	}
	return m
}

// checkReadMessage also asks that the text is the one that ShowMessage makes.
func checkReadMessage(t *testing.T, what string, text string, want impl.Message) {
	t.Helper()
	if faults := wantedFaults(text); len(faults) > 0 || !sameMessage(wantedMessage(text), want) {
		t.Fatalf("%s: the test itself tells %v of %.300q", what, faults, text)
	}
	got, fault := impl.ReadMessage(text)
	if fault != (impl.MsgFault{}) || !sameMessage(got, want) {
		t.Fatalf("%s: ReadMessage(%.300q) = %.300q, %v, want %.300q", what, text, got, fault, want)
	}
	if shown := impl.ShowMessage(got); shown != text || !impl.MessageOk(got) {
		t.Fatalf("%s: ReadMessage(%.300q) = %.300q, of which ShowMessage makes %.300q", what, text, got, shown)
	}
}

func checkFault(t *testing.T, what string, text string, code, at int) {
	t.Helper()
	want := faultOf(code, at)
	if faults := wantedFaults(text); len(faults) == 0 || faults[0] != want {
		t.Errorf("%s: the test itself tells %v of %.300q, want %v", what, faults, text, want)
	}
	if m, fault := impl.ReadMessage(text); fault != want || len(m.Parts) > 0 {
		t.Errorf("%s: ReadMessage(%.300q) = %.300q, %v, want %v", what, text, m, fault, want)
	}
}

// checkReadAsTold goes by what the test itself tells, and answers the code.
func checkReadAsTold(t *testing.T, text string) int64 {
	t.Helper()
	faults := wantedFaults(text)
	if len(faults) == 0 {
		checkReadMessage(t, "as told", text, wantedMessage(text))
		return 0
	}
	checkFault(t, "as told", text, int(faults[0].Code), int(faults[0].At))
	return faults[0].Code
}

func TestReadMessage(t *testing.T) {
	checkReadMessage(t, "a part without fields", "ABC\r", messageOf(partOf("ABC")))
	checkReadMessage(t, "a field", "ABC|x\r", messageOf(partOf("ABC", "x")))
	checkReadMessage(t, "an empty field between", "ABC|x||y\r", messageOf(partOf("ABC", "x", "", "y")))
	checkReadMessage(t, "an empty field first", "ABC||y\r", messageOf(partOf("ABC", "", "y")))
	checkReadMessage(t, "parts", "ABC|x\rZ09\rA1B|y|z\r", messageOf(partOf("ABC", "x"), partOf("Z09"), partOf("A1B", "y", "z")))
	checkReadMessage(t, "escapes", `ABC|\F\\E\|a\R\b\N\c|\X00\\X7F\\XFF\`+"\r", messageOf(partOf("ABC", "|\\", "a\rb\nc", "\x00\x7f\xff")))
	checkReadMessage(t, "what is like a name in a field", "ABC|DEF|abc|0\r", messageOf(partOf("ABC", "DEF", "abc", "0")))
	checkReadMessage(t, "letters of escapes, and no mark", "ABC|F|E|R|N|X00|X\r", messageOf(partOf("ABC", "F", "E", "R", "N", "X00", "X")))
}

// Each code in texts to which it alone applies.
func TestEachFaultAlone(t *testing.T) {
	long := "ABC|" + strings.Repeat("x", 19996) + "\r"
	for _, c := range []struct {
		text     string
		code, at int
	}{
		{long, 1, 0}, {strings.Repeat("ABC|"+strings.Repeat("x", 1996)+"\r", 20), 1, 0},
		{"ABC", 2, 3}, {"ABC|x", 2, 5}, {"ABC\rDEF|x", 2, 9},
		{"ABC|x\n\r", 3, 5}, {"ABC|\x00\r", 3, 4}, {"ABC|xy\xff|z\r", 3, 6}, {"ABC|\x7f\r", 3, 4},
		{"AB\r", 4, 0}, {"ABC\rab\r", 4, 4}, {"ABC|x\r\r", 4, 6}, {"\r", 4, 0}, {"0AB|x\r", 4, 0}, {"ABCD|x\r", 4, 0}, {"ABC x\r", 4, 0},
		{"ABC|\\\r", 5, 4}, {"ABC|x|\\F\r", 5, 6}, {`ABC|\X41\` + "\r", 5, 4}, {`ABC|\F\\` + "\r", 5, 7},
		{"ABC|\r", 6, 0}, {"ABC|x|\r", 6, 0}, {"ABC|x\rDEF||\rGHI\r", 6, 6}, {"ABC" + strings.Repeat("|x", 31) + "\r", 6, 0},
		{strings.Repeat("ABC\r", 21), 7, 84}, {strings.Repeat("ABC|x\r", 30), 7, 180},
	} {
		if faults := wantedFaults(c.text); len(faults) != 1 {
			t.Errorf("%.100q has not one fault: %v", c.text, faults)
		}
		checkFault(t, "alone", c.text, c.code, c.at)
	}
	checkFault(t, "the empty text", "", 2, 0)
}

// wrongText has all faults whose codes are in the set, and no other; the faults that parts have come in this order or the other one.
func wrongText(codes int, backward bool) string {
	has := func(code int) bool { return codes>>code&1 == 1 }
	parts := []string{"ABC|x\r"}
	for code, part := range map[int]string{3: "DEF|y\n\r", 4: "DE|f\r", 5: "GHI|\\X41\\|g\r", 6: "JKL|x||\r"} {
		if has(code) {
			parts = append(parts, part)
		}
	}
	slices.Sort(parts)
	if backward {
		slices.Reverse(parts)
	}
	if has(7) {
		parts = append(parts, slices.Repeat([]string{"XYZ\r"}, 20)...)
	}
	if has(1) {
		parts = append(parts[:len(parts)-1], "ZZZ|"+strings.Repeat("z", 20000)+"\r", parts[len(parts)-1])
	}
	text := strings.Join(parts, "")
	if has(2) {
		text = strings.TrimSuffix(text, "\r")
	}
	return text
}

func TestSeveralFaultsAtOnce(t *testing.T) {
	for codes := 0; codes < 256; codes += 2 {
		for _, backward := range []bool{false, true} {
			text, first := wrongText(codes, backward), int64(0)
			for code := 7; code > 0; code-- {
				if codes>>code&1 == 1 {
					first = int64(code)
				}
			}
			told := 0
			for _, fault := range wantedFaults(text) {
				told |= 1 << fault.Code
			}
			if told != codes {
				t.Fatalf("%.300q has the faults %b, not %b", text, told, codes)
			}
			if code := checkReadAsTold(t, text); code != first {
				t.Fatalf("%.300q: %d, want %d", text, code, first)
			}
		}
	}
}

// Pairs of faults in one part, and in two parts in either order.
func TestPairsOfFaults(t *testing.T) {
	checkFault(t, "a byte in a wrong name", "A\x00\r", 3, 1)
	checkFault(t, "a byte behind a wrong name", "ab|x\n\r", 3, 4)
	checkFault(t, "a byte behind a wrong escape", "ABC|\\\x00\r", 3, 5)
	checkFault(t, "a byte within an escape", "ABC|\\X\x000\\\r", 3, 6)
	checkFault(t, "a wrong escape in a wrong name", "A\\C|x\r", 4, 0)
	checkFault(t, "a wrong escape behind a wrong name", "ABCD|\\\r", 4, 0)
	checkFault(t, "a wrong escape ahead of a wrong name", "ABC|\\\rab\r", 4, 6)
	checkFault(t, "a wrong name ahead of a wrong escape", "ab\rABC|\\\r", 4, 0)
	checkFault(t, "a right escape right behind a name", "ABC\\F\\\r", 4, 0)
	checkFault(t, "an empty field ahead of a wrong name", "ABC|\rab\r", 4, 5)
	checkFault(t, "an empty field ahead of a wrong escape", "ABC|\rDEF|\\\r", 5, 9)
	checkFault(t, "an empty field behind a wrong escape", "ABC|\\|\r", 5, 4)
	checkFault(t, "a wrong escape in field number 31", "ABC"+strings.Repeat("|x", 30)+"|\\\r", 5, 64)
	checkFault(t, "an empty field in part number 21", strings.Repeat("ABC\r", 20)+"DEF|\r", 6, 80)
	checkFault(t, "a wrong escape in part number 21", strings.Repeat("ABC\r", 20)+"DEF|\\\r", 5, 84)
	checkFault(t, "a wrong name in part number 21", strings.Repeat("ABC\r", 20)+"def\r", 4, 80)
	checkFault(t, "an empty part number 21", strings.Repeat("ABC\r", 20)+"\r", 4, 80)
	checkFault(t, "no end, and too many parts", strings.Repeat("ABC\r", 21)+"ABC", 2, 87)
	checkFault(t, "no end, and a wrong name ahead", "ab\rABC", 2, 6)
	checkFault(t, "a wrong byte at the end", "ABC\r\n", 2, 5)
	checkFault(t, "a wrong byte ahead of no end", "\x00", 2, 1)
}

func TestFirstOfSeveralPlaces(t *testing.T) {
	checkFault(t, "bytes", "ABC|\x01\x00\xff\rDEF|\x7f\r", 3, 4)
	checkFault(t, "bytes, the greater ahead", "ABC|x\xff\x00\r", 3, 5)
	checkFault(t, "a byte in the second part", "ABC|x\rDEF|\n\n\r", 3, 10)
	checkFault(t, "names", "ABC\rab\rcd\r", 4, 4)
	checkFault(t, "names from the first on", "ab\rcd\rABC\r", 4, 0)
	checkFault(t, "empty parts", "ABC\r\r\r", 4, 4)
	checkFault(t, "escapes", "ABC|\\F\\\\|\\\r", 5, 7)
	checkFault(t, "escapes side by side", `ABC|\\\\`+"\r", 5, 4)
	checkFault(t, "escapes in two parts", "ABC|\\F\\\rDEF|a\\a\rGHI|\\\r", 5, 13)
	checkFault(t, "fields", "ABC\rDEF|\rGHI|\r", 6, 4)
	checkFault(t, "too many fields ahead of an empty one", "ABC\rDEF"+strings.Repeat("|x", 31)+"\rGHI|\r", 6, 4)
	checkFault(t, "an empty one ahead of too many fields", "ABC\rDEF|\rGHI"+strings.Repeat("|x", 31)+"\r", 6, 4)
}

func TestReadLongestTexts(t *testing.T) {
	for _, length := range []int{19999, 20000} {
		field := strings.Repeat("x", length-5)
		checkReadMessage(t, "not too long", "ABC|"+field+"\r", messageOf(partOf("ABC", field)))
	}
	for _, length := range []int{20001, 20002, 100000} {
		checkFault(t, "too long", "ABC|"+strings.Repeat("x", length-5)+"\r", 1, 0)
		checkFault(t, "too long, all wrong", strings.Repeat("\x00", length), 1, 0)
		checkFault(t, "too long, and all ends", strings.Repeat("\r", length), 1, 0)
	}
	checkFault(t, "all wrong", strings.Repeat("\x00", 20000), 2, 20000)
	checkFault(t, "all ends", strings.Repeat("\r", 20000), 4, 0)
	checkFault(t, "all fields", "ABC"+strings.Repeat("|", 19996)+"\r", 6, 0)
	checkFault(t, "all marks", "ABC|"+strings.Repeat(`\`, 19995)+"\r", 5, 4)
	checkFault(t, "all parts", strings.Repeat("ABC\r", 5000), 7, 20000)
	// An escape counts by its bytes in the text.
	checkReadMessage(t, "all escapes", "ABC|"+strings.Repeat(`\X00\`, 3999)+"\r", messageOf(partOf("ABC", strings.Repeat("\x00", 3999))))
	checkFault(t, "one escape more", "ABC|"+strings.Repeat(`\X00\`, 4000)+"\r", 1, 0)
}

func TestTextsWithoutAnEnd(t *testing.T) {
	for _, text := range []string{"", "A", "ABC", "ABC|", "ABC|x", "ABC\rDEF", "ABC\n", "ABC\r\n", "\x00", "ABC|\\", "ABC|\\F\\", "ABC|\\R\\", strings.Repeat("x", 20000)} {
		checkFault(t, "no end", text, 2, len(text))
	}
}

// Each byte as a text, at the end, in a field, in a name, behind one and within an escape.
func TestEachByteRead(t *testing.T) {
	for n := range 256 {
		one := string([]byte{byte(n)})
		for _, text := range []string{one, one + "\r", "ABC" + one, "ABC" + one + "\r", "ABC|" + one, "ABC|" + one + "\r", "ABC|x" + one + "y\rDEF\r", one + "BC\r", "A" + one + "C\r", "AB" + one + "|x\r", `ABC|\` + one + `\` + "\r", `ABC|\X0` + one + `\` + "\r", `ABC|\X00` + one + "\r", `ABC|\F` + one + "\r", "ABC\r" + one} {
			checkReadAsTold(t, text)
		}
	}
	for _, n := range []byte{0, 1, 9, 10, 11, 12, 14, 31, 127, 128, 255} {
		checkFault(t, "a byte that is not told so", "ABC|x"+string([]byte{n})+"\r", 3, 5)
	}
	for _, n := range []byte{32, 33, 91, 93, 123, 125, 126} {
		checkReadMessage(t, "a byte that is", "ABC|x"+string([]byte{n})+"\r", messageOf(partOf("ABC", "x"+string([]byte{n}))))
	}
}

func TestNamesRead(t *testing.T) {
	for _, name := range []string{"ABC", "A0B", "AB0", "A00", "Z99", "ZZZ"} {
		checkReadMessage(t, "a name", name+"\r", messageOf(partOf(name)))
		checkReadMessage(t, "a name with a field", "DEF\r"+name+"|x\r", messageOf(partOf("DEF"), partOf(name, "x")))
	}
	for _, name := range []string{"", "A", "AB", "ABCD", "AB12", "abc", "aBC", "AbC", "ABc", "0AB", "9BC", "012", "A B", "AB ", " AB", "ABC ", "A-B", "@BC", "[BC", "A/B", "A:B", "AB@", "AB[", "AB/", "AB:", "/BC", ":BC", "ABC\\", "\\F\\"} {
		checkFault(t, "no name", name+"\r", 4, 0)
		checkFault(t, "no name with a field", name+"|x\r", 4, 0)
		checkFault(t, "no name in another part", "DEF|x\r"+name+"\rGHI\r", 4, 6)
		checkFault(t, "no name with a field in the last part", "DEF|x\rGHI\r"+name+"|x\r", 4, 10)
	}
}

func TestEachEscapeRead(t *testing.T) {
	for escape, stands := range map[string]string{`\F\`: "|", `\E\`: "\\", `\R\`: "\r", `\N\`: "\n", `\X00\`: "\x00", `\X09\`: "\t", `\X0B\`: "\v", `\X0C\`: "\f", `\X0E\`: "\x0e", `\X1F\`: "\x1f", `\X7F\`: "\x7f", `\X80\`: "\x80", `\XAB\`: "\xab", `\XFF\`: "\xff"} {
		checkReadMessage(t, "alone", "ABC|"+escape+"\r", messageOf(partOf("ABC", stands)))
		checkReadMessage(t, "between", "ABC|x"+escape+"y|"+escape+escape+"\rDEF\r", messageOf(partOf("ABC", "x"+stands+"y", stands+stands), partOf("DEF")))
		for cut := 1; cut < len(escape); cut++ {
			checkFault(t, "cut off at the text's end", "ABC|"+escape[:cut]+"\r", 5, 4)
			checkFault(t, "cut off at the part's end", "ABC|x"+escape[:cut]+"\rDEF|y\r", 5, 5)
			checkFault(t, "cut off at the field's end", "ABC|x"+escape[:cut]+"|F\\\r", 5, 5)
			checkFault(t, "cut off without an end", "ABC|"+escape[:cut], 2, 4+cut)
			checkFault(t, "its end behind the part's end", "ABC|"+escape[:cut]+"\r"+escape[cut:]+"|x\r", 4, 5+cut)
		}
		if small := strings.ToLower(escape); small != escape {
			checkFault(t, "small letters", "ABC|"+small+"\r", 5, 4)
		}
		checkFault(t, "a blank within", "ABC|\\ "+escape[1:]+"\r", 5, 4)
		checkFault(t, "a mark more ahead", "ABC|\\"+escape+"\r", 5, 4)
		checkFault(t, "a mark more behind", "ABC|"+escape+"\\\r", 5, 4+len(escape))
	}
}

func TestWrongEscapes(t *testing.T) {
	for _, wrong := range []string{
		`\`, `\\`, `\\\`, `\a`, `\ \`, `\A\`, `\D\`, `\G\`, `\S\`, `\T\`, `\X\`, `\X0\`, `\X000\`, `\X0000\`, `\Xff\`, `\XfF\`, `\XFf\`, `\X0b\`, `\X1f\`, `\x00\`, `\XG0\`, `\X0G\`, `\X0@\`, `\X/0\`, `\X:0\`, `\X0:\`, `\X 0\`, `\X0 \`, `\X-1\`, `\X+1\`, `\FF\`, `\f\`, `\e\`, `\r\`, `\n\`, `\1\`, `\00\`, `\X0D`, `\X00/`, `/F\`, `\F/`,
		// A byte that has an escape of its own, or needs none.
		`\X0A\`, `\X0D\`, `\X5C\`, `\X7C\`, `\X20\`, `\X21\`, `\X41\`, `\X61\`, `\X7E\`, `\X30\`, `\X46\`,
	} {
		if at := strings.Index(wrong, `\`); at == 0 {
			checkFault(t, "at the front", "ABC|"+wrong+"\r", 5, 4)
			checkFault(t, "between", "ABC|x|y"+wrong+"z|x\rDEF\r", 5, 7)
			checkFault(t, "behind a right one", "ABC|\\F\\"+wrong+"\r", 5, 7)
		} else {
			checkFault(t, "further behind", "ABC|"+wrong+"\r", 5, 4+at)
		}
	}
	checkFault(t, "the second mark of an escape does not begin another", `ABC|\F\F\`+"\r", 5, 8)
	checkFault(t, "nor does it across a field", `ABC|\F\|F\`+"\r", 5, 9)
	checkReadMessage(t, "what stands between two escapes", `ABC|\F\F\E\`+"\r", messageOf(partOf("ABC", "|F\\")))
}

// Whatever two bytes stand where two digits of 16 should: only those are read that ShowMessage writes.
func TestAllPairsOfHexDigits(t *testing.T) {
	read := 0
	for high := range 256 {
		for low := range 256 {
			text := string([]byte{'A', 'B', 'C', '|', '\\', 'X', byte(high), byte(low), '\\', '\r'})
			faults := wantedFaults(text)
			m, fault := impl.ReadMessage(text)
			if len(faults) > 0 && (fault != faults[0] || len(m.Parts) > 0) || len(faults) == 0 && (fault != impl.MsgFault{} || impl.ShowMessage(m) != text) {
				t.Fatalf("ReadMessage(%q) = %q, %v, want %v", text, m, fault, faults)
			}
			if len(faults) == 0 {
				read++
			}
		}
	}
	// 30 below 32, and those from 127 on.
	if read != 30+129 {
		t.Error(read)
	}
}

func TestFieldsRead(t *testing.T) {
	for count := 1; count <= 30; count++ {
		text := "ABC" + strings.Repeat("|", count) + "x\r"
		checkReadMessage(t, "so many fields", text, messageOf(partOf("ABC", fieldsTo(count)...)))
		checkReadMessage(t, "so many fields in the second part", "DEF\r"+text, messageOf(partOf("DEF"), partOf("ABC", fieldsTo(count)...)))
		checkFault(t, "the last one is empty", "DEF\rABC"+strings.Repeat("|", count)+"\r", 6, 4)
		checkFault(t, "the last one is empty, no other", "ABC"+strings.Repeat("|x", count)+"|\r", 6, 0)
	}
	for _, count := range []int{31, 32, 1000} {
		checkFault(t, "too many fields", "ABC"+strings.Repeat("|", count)+"x\r", 6, 0)
		checkFault(t, "too many fields in the second part", "DEF\rABC"+strings.Repeat("|x", count)+"\r", 6, 4)
		checkFault(t, "too many, and the last one is empty", "ABC"+strings.Repeat("|", count)+"\r", 6, 0)
	}
	checkReadMessage(t, "an escaped mark begins no field", "ABC"+strings.Repeat("|\\F\\", 30)+"\r", messageOf(partOf("ABC", slices.Repeat([]string{"|"}, 30)...)))
}

func TestPartsRead(t *testing.T) {
	for count := 1; count <= 20; count++ {
		checkReadMessage(t, "so many parts", strings.Repeat("ABC|x\r", count), messageOf(slices.Repeat([]impl.Part{partOf("ABC", "x")}, count)...))
	}
	for _, count := range []int{21, 22, 100} {
		checkFault(t, "too many parts", strings.Repeat("ABC|x\r", count), 7, 6*count)
	}
	checkReadMessage(t, "an escaped end ends no part", "ABC|"+strings.Repeat(`\R\`, 40)+"\r", messageOf(partOf("ABC", strings.Repeat("\r", 40))))
	all := strings.Repeat("ABC"+strings.Repeat("|x", 30)+"\r", 20)
	checkReadMessage(t, "MaxParts with MaxFields", all, messageOf(slices.Repeat([]impl.Part{partOf("ABC", slices.Repeat([]string{"x"}, 30)...)}, 20)...))
}

// All short texts of the bytes that matter, in a field and behind another part.
func TestAllShortTexts(t *testing.T) {
	const signs = "A|\\\rF0X"
	texts, told := []string{""}, [8]int{}
	for len(texts[0]) < 5 {
		longer := []string{}
		for _, text := range texts {
			for _, sign := range signs {
				longer = append(longer, text+string(sign))
			}
		}
		texts = longer
		for _, text := range texts {
			for _, whole := range []string{text, "ABC|" + text + "\r", "ABC" + text + "\r", `ABC|\` + text + `0\` + "\r"} {
				told[checkReadAsTold(t, whole)]++
			}
		}
	}
	for _, code := range []int{0, 2, 4, 5, 6} {
		if told[code] < 500 {
			t.Error("too few of a code:", code, told)
		}
	}
}

// randomText is of pieces of messages, right ones and others.
func randomText(coins *rand.Rand) string {
	right := []string{"|", "|x", "|yz", "|", " ~", `\F\`, `\E\`, `\R\`, `\N\`, `\X00\`, `\XFF\`, "|x\rZ9A|", "|x\rABC|x"}
	wrong := []string{"\r", `\`, "X", "0A", "F", "\n", "\x7f", "\x80", "ab", "\r\r", "|\r", strings.Repeat("|", 31), strings.Repeat("ABC\r", 21), `\X41\`}
	text := strings.Repeat("DEF\r", coins.Intn(2)*coins.Intn(22)) + "ABC|"
	for range coins.Intn(12) {
		if coins.Intn(20) == 0 {
			text += wrong[coins.Intn(len(wrong))]
		} else {
			text += right[coins.Intn(len(right))]
		}
	}
	if coins.Intn(20) == 0 {
		return text
	}
	return text + "\r"
}

// Every text that is read is the one that ShowMessage makes of what was read.
func TestReadManyTexts(t *testing.T) {
	coins := rand.New(rand.NewSource(154))
	told := [8]int{}
	for range 100000 {
		told[checkReadAsTold(t, randomText(coins))]++
	}
	for code, count := range told {
		if code != 1 && count < 500 {
			t.Error("too few of a code:", code, told)
		}
	}
}

// A text with one byte turned, put in or taken out is read as another message, or not at all.
func TestTextsWithASlip(t *testing.T) {
	coins := rand.New(rand.NewSource(155))
	told := [8]int{}
	for range 20000 {
		text := []byte(impl.ShowMessage(randomMessage(coins)))
		at := coins.Intn(len(text))
		sign := byte(coins.Intn(256))
		if coins.Intn(2) == 0 {
			sign = "|\\\rFX0A"[coins.Intn(7)]
		}
		switch coins.Intn(3) {
		case 0:
			text[at] = sign
		case 1:
			text = slices.Insert(text, at, sign)
		default:
			text = slices.Delete(text, at, at+1)
		}
		told[checkReadAsTold(t, string(text))]++
	}
	if told[0] < 2000 || told[3] < 1000 || told[4] < 500 || told[5] < 500 {
		t.Error(told)
	}
}

// Promise 18: ReadMessage of ShowMessage is the message.
func TestReadOfShowIsTheMessage(t *testing.T) {
	coins := rand.New(rand.NewSource(156))
	long := 0
	for range 5000 {
		m := randomMessage(coins)
		if coins.Intn(10) == 0 {
			p := &m.Parts[coins.Intn(len(m.Parts))]
			p.Fields = append(p.Fields[:min(len(p.Fields), 29)], string(randomBytes(coins, coins.Intn(5000)))+".")
		}
		text := impl.ShowMessage(m)
		if text == "" {
			long++
			continue
		}
		got, fault := impl.ReadMessage(text)
		if fault != (impl.MsgFault{}) || !sameMessage(got, m) {
			t.Fatalf("ReadMessage(ShowMessage(%q)) = %q, %v", m, got, fault)
		}
	}
	if long > 1000 {
		t.Error("too many are too long:", long)
	}
}

func TestMessagesStayAndAnswersAreNewMemory(t *testing.T) {
	for _, count := range []int{0, 1, 2, 3} {
		room := append(aMessage().Parts, partOf("abc", "room"))
		for at := range room {
			room[at].Fields = append(slices.Clone(room[at].Fields), "behind")[:len(room[at].Fields)]
		}
		look := func() (all []string) {
			for _, p := range room {
				all = append(append(all, p.Name), p.Fields[:len(p.Fields)+1]...)
			}
			return all
		}
		m, before := impl.Message{Parts: room[:count]}, look()
		text := impl.ShowMessage(m)
		impl.MessageOk(m)
		got, _ := impl.ReadMessage(text)
		kept := anewMessage(got)
		other, _ := impl.ReadMessage(text)
		for _, p := range other.Parts {
			clear(p.Fields[:cap(p.Fields)])
		}
		clear(other.Parts[:cap(other.Parts)])
		if !slices.Equal(look(), before) {
			t.Fatal("an argument was written into, or shares memory with an answer")
		}
		if !sameMessage(got, kept) {
			t.Fatal("two answers share memory")
		}
	}
}

// The lists of fields of one answer have each its own memory, and room.
func TestFieldsOfAnAnswerAreApart(t *testing.T) {
	text := "ABC|a|b\rDEF\rGHI|c\rJKL|d|e|f\rMNO\r"
	for at := range 5 {
		m, _ := impl.ReadMessage(text)
		kept := anewMessage(m)
		one := append(m.Parts[at].Fields, "?", "?", "?")
		one[0] = "!"
		m.Parts[at].Fields, kept.Parts[at].Fields = one, one
		if !sameMessage(m, kept) {
			t.Fatal("lists of one answer share memory:", m, kept)
		}
	}
}

// What one call read is not there in the next one, and calls side by side have nothing in common.
func TestMessagesSideBySide(t *testing.T) {
	answers := make(chan bool)
	for at := range 20 {
		go func() {
			ok := true
			for range 50 {
				m := messageOf(partOf("ABC", strings.Repeat("|", at+1)), partOf("DEF"))
				got, fault := impl.ReadMessage(impl.ShowMessage(m))
				_, wrong := impl.ReadMessage(strings.Repeat("ABC\r", at+1) + "AB\r")
				ok = ok && sameMessage(got, m) && fault == impl.MsgFault{} && wrong == faultOf(4, 4*at+4)
			}
			answers <- ok
		}()
	}
	for range 20 {
		if !<-answers {
			t.Error("an answer is another one side by side")
		}
	}
}
