package tests

import (
	"math/rand"
	"strings"
	"testing"

	"loop.example/g00060/impl"
)

// wantedKey takes the document's steps one by one: letters made small, all else
// left out, the eight left out behind the first, runs made one.
func wantedKey(name string) string {
	if len(name) > 200 {
		return ""
	}
	var letters []byte
	for _, b := range []byte(name) {
		if b >= 'A' && b <= 'Z' {
			b += 'a' - 'A'
		}
		if b >= 'a' && b <= 'z' {
			letters = append(letters, b)
		}
	}
	if len(letters) == 0 {
		return ""
	}
	rest := strings.NewReplacer("a", "", "e", "", "i", "", "o", "", "u", "", "h", "", "w", "", "y", "").Replace(string(letters[1:]))
	kept := string(letters[:1]) + rest
	for letter := 'a'; letter <= 'z'; letter++ {
		one := string(letter)
		for strings.Contains(kept, one+one) {
			kept = strings.ReplaceAll(kept, one+one, one)
		}
	}
	return kept
}

func checkKey(t *testing.T, name string) {
	t.Helper()
	if got, want := impl.NameKey(name), wantedKey(name); got != want {
		t.Errorf("NameKey(%q) = %q, want %q", name, got, want)
	}
}

var notLetters = []string{" ", "-", "'", ".", "0", "9", "\x00", "\n", "@", "[", "`", "{", "_", "é", "É", "ß", "\u017f", "\u212a", "İ", "ı", "ａ", "日", "😀", "\u0301", "\ufffd", "\x80", "\xff", "\xc3", "\xe2\x82", "\xf0\x9f\x98", "\xc1\x81", "\xed\xa0\x80"}

func TestNameKey(t *testing.T) {
	for name, want := range map[string]string{
		"":                 "",
		"Anna":             "an",
		"Lloyd-Whitehall":  "ldtl",
		"a":                "a",
		"Z":                "z",
		"Aaron":            "arn",
		"aeiouhwy":         "a",
		"hwyaeiou":         "h",
		"Hannah":           "hn",
		"Whyte":            "wt",
		"Bob":              "b",
		"Baby Bobby":       "b",
		"Abba":             "ab",
		"Bb Bb":            "b",
		"Mc Carthy":        "mcrt",
		"Schwarz":          "scrz",
		"O'Neill":          "onl",
		"Müller":           "mlr",
		"Éva":              "v",
		"-- 12 '":          "",
		"\u212aelvin":      "elvn",
		"x\xffX\xc3x":      "x",
		"\xc3b":            "b",
		"n\u00f1n":         "n",
		"tst":              "tst",
		"tat":              "t",
		"abcdefghijklmnop": "abcdfgjklmnp",
		"qrstuvwxyz":       "qrstvxz",
		"ABCDEFGHIJKLMNOP": "abcdfgjklmnp",
		"QRSTUVWXYZ":       "qrstvxz",
	} {
		if got := impl.NameKey(name); got != want {
			t.Errorf("NameKey(%q) = %q, want %q", name, got, want)
		}
		checkKey(t, name)
	}
}

func TestNameKeyOfTwoAndThreeBytes(t *testing.T) {
	for a := 0; a < 256; a++ {
		for b := 0; b < 256; b++ {
			checkKey(t, string([]byte{byte(a), byte(b)}))
			checkKey(t, string([]byte{'b', byte(a), byte(b), 'b'}))
		}
	}
	for a := 'a'; a <= 'z'; a++ {
		for b := 'a'; b <= 'z'; b++ {
			for c := 'a'; c <= 'z'; c++ {
				checkKey(t, string([]rune{a, b, c}))
			}
		}
	}
}

func TestNameKeyLimits(t *testing.T) {
	if impl.MaxName != 200 {
		t.Fatal("MaxName", impl.MaxName)
	}
	for _, sign := range []string{"bc", "B", "a", " b", "é", "日b", "\xff"} {
		full := strings.Repeat(sign, 200/len(sign))
		full += strings.Repeat("-", 200-len(full))
		if got, want := impl.NameKey(full), wantedKey(full); got != want || strings.ContainsAny(sign, "abB") != (got != "") {
			t.Errorf("NameKey of %d bytes %q = %q, want %q", len(full), sign, got, want)
		}
		for _, more := range []string{"b", " ", "\xff", strings.Repeat("c", 1000)} {
			if got := impl.NameKey(full + more); got != "" {
				t.Errorf("NameKey of %d bytes = %q", len(full+more), got)
			}
			if got := impl.NameKey(more + full); got != "" {
				t.Errorf("NameKey of %d bytes = %q", len(full+more), got)
			}
		}
	}
	key := strings.Repeat("bc", 100)
	if got := impl.NameKey(key); got != key {
		t.Errorf("a key of %d bytes is told as one of %d", len(key), len(got))
	}
}

func randomName(coins *rand.Rand, most int) string {
	var name strings.Builder
	for count := coins.Intn(most + 1); count > 0; count-- {
		switch coins.Intn(4) {
		case 0:
			name.WriteString(notLetters[coins.Intn(len(notLetters))])
		case 1:
			name.WriteByte("ahwbBAcC"[coins.Intn(8)])
		default:
			name.WriteByte(byte('A' + coins.Intn(26) + 32*coins.Intn(2)))
		}
	}
	return name.String()
}

func madeSmall(name string) string {
	small := []byte(name)
	for i, b := range small {
		if b >= 'A' && b <= 'Z' {
			small[i] = b - 'A' + 'a'
		}
	}
	return string(small)
}

func TestNameKeyHangsOnLettersAlone(t *testing.T) {
	coins := rand.New(rand.NewSource(6))
	for range 20000 {
		name := randomName(coins, 12)
		key := impl.NameKey(name)
		if key != wantedKey(name) {
			t.Fatalf("NameKey(%q) = %q, want %q", name, key, wantedKey(name))
		}
		if got := impl.NameKey(madeSmall(name)); got != key {
			t.Fatalf("%q has the key %q, with small letters %q", name, key, got)
		}
		// The letters alone, with a sign laid between any two of them.
		letters := []byte{}
		for _, b := range []byte(name) {
			if b >= 'a' && b <= 'z' || b >= 'A' && b <= 'Z' {
				letters = append(letters, b)
			}
		}
		parted := ""
		for _, letter := range letters {
			parted += notLetters[coins.Intn(len(notLetters))] + string([]byte{letter})
		}
		if got := impl.NameKey(parted); got != key {
			t.Fatalf("%q has the key %q, %q has %q", name, key, parted, got)
		}
	}
}

func TestNameKeyOfEachSignBetween(t *testing.T) {
	for _, sign := range notLetters {
		for _, name := range []string{"bb", "Bb", "abc", "Lloyd", "tat"} {
			for i := 0; i <= len(name); i++ {
				if got, want := impl.NameKey(name[:i]+sign+name[i:]), impl.NameKey(name); got != want || want == "" {
					t.Errorf("%q in %q at %d: %q, want %q", sign, name, i, got, want)
				}
			}
		}
	}
}
