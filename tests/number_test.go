package tests

import (
	"fmt"
	"math"
	"math/rand"
	"regexp"
	"testing"

	"loop.example/g00060/impl"
)

// The tests of numbers reckon with the digits as a text, and with the doubles' digits as a table.

const digitSumsOfDoubles = "0246813579"

func wantedCheckDigit(n int64) int64 {
	if n < 0 || n > 1000000000 {
		return -1
	}
	digits := fmt.Sprint(n)
	lacks := int64(0)
	for i := range digits {
		digit := digits[len(digits)-1-i]
		if i%2 == 0 {
			digit = digitSumsOfDoubles[digit-'0']
		}
		lacks += 10 - int64(digit-'0')
	}
	return lacks % 10
}

func wantedNumber(n int64) string {
	if n < 0 || n > 999999999 {
		return ""
	}
	return fmt.Sprintf("MRN%09d-%d", n, wantedCheckDigit(n))
}

var numberForm = regexp.MustCompile(`\AMRN[0-9]{9}-[0-9]\z`)

func wantedRead(text string) (int64, bool) {
	if !numberForm.MatchString(text) {
		return 0, false
	}
	var n int64
	for _, digit := range text[3:12] {
		n = 10*n + int64(digit-'0')
	}
	if wantedNumber(n) != text {
		return 0, false
	}
	return n, true
}

var numberEdges = []int64{math.MinInt64, math.MinInt64 + 1, -1000000000, -10, -1, 0, 1, 4, 5, 9, 10, 18, 90, 99, 100, 7992739, 79927398, 99999999, 100000000, 123456789, 909090909, 987654321, 999999998, 999999999, 1000000000, 1000000001, 1000000009, 7992739871, math.MaxInt64 - 1, math.MaxInt64}

func someNumbers(seed int64, count int) []int64 {
	coins := rand.New(rand.NewSource(seed))
	list := []int64{0, 1, 9, 90, 999999999, 100000000, 909090909}
	for len(list) < count {
		list = append(list, coins.Int63n([]int64{10, 1000, 1000000, 1000000000}[coins.Intn(4)]))
	}
	return list
}

func checkRead(t *testing.T, text string) {
	t.Helper()
	want, should := wantedRead(text)
	if n, is := impl.ReadNumber(text); n != want || is != should {
		t.Errorf("ReadNumber(%q) = %d, %v, want %d, %v", text, n, is, want, should)
	}
}

func TestCheckDigit(t *testing.T) {
	for n, want := range map[int64]int64{
		0: 0, 1: 8, 4: 2, 5: 9, 9: 1, 10: 9, 18: 2, 79927398: 2, 7992739871: -1,
		999999999: 9, 1000000000: 9, 1000000001: -1, -1: -1, math.MinInt64: -1, math.MaxInt64: -1,
	} {
		if got := impl.CheckDigit(n); got != want {
			t.Errorf("CheckDigit(%d) = %d, want %d", n, got, want)
		}
	}
	for _, n := range append(someNumbers(1, 5000), numberEdges...) {
		if got, want := impl.CheckDigit(n), wantedCheckDigit(n); got != want {
			t.Errorf("CheckDigit(%d) = %d, want %d", n, got, want)
		}
	}
}

func TestMakeNumber(t *testing.T) {
	for n, want := range map[int64]string{
		0: "MRN000000000-0", 1: "MRN000000001-8", 79927398: "MRN079927398-2", 999999999: "MRN999999999-9",
		1000000000: "", -1: "", math.MinInt64: "", math.MaxInt64: "",
	} {
		if got := impl.MakeNumber(n); got != want {
			t.Errorf("MakeNumber(%d) = %q, want %q", n, got, want)
		}
	}
	for _, n := range append(someNumbers(2, 5000), numberEdges...) {
		if got, want := impl.MakeNumber(n), wantedNumber(n); got != want {
			t.Errorf("MakeNumber(%d) = %q, want %q", n, got, want)
		}
	}
}

func TestReadNumberOfMakeNumberIsTheNumber(t *testing.T) {
	for _, n := range append(someNumbers(3, 5000), numberEdges...) {
		got, is := impl.ReadNumber(impl.MakeNumber(n))
		if n < 0 || n > 999999999 {
			if is || got != 0 {
				t.Errorf("%d has no number, but %d, %v was read", n, got, is)
			}
		} else if !is || got != n {
			t.Errorf("number of %d is read as %d, %v", n, got, is)
		}
	}
}

func digitPlaces(text string) []int {
	var places []int
	for i := range text {
		if text[i] >= '0' && text[i] <= '9' {
			places = append(places, i)
		}
	}
	return places
}

func TestNoDigitTurnedIsRead(t *testing.T) {
	for _, n := range someNumbers(4, 300) {
		text := impl.MakeNumber(n)
		places := digitPlaces(text)
		if len(places) != 10 {
			t.Fatalf("MakeNumber(%d) = %q has not ten digits", n, text)
		}
		for _, i := range places {
			for digit := byte('0'); digit <= '9'; digit++ {
				turned := []byte(text)
				turned[i] = digit
				if got, is := impl.ReadNumber(string(turned)); is != (string(turned) == text) || !is && got != 0 {
					t.Errorf("%q, turned from %q, is read as %d, %v", turned, text, got, is)
				}
			}
		}
	}
}

func TestNoNeighboursExchangedAreRead(t *testing.T) {
	exchangesOf0And9 := 0
	for _, n := range someNumbers(5, 2000) {
		text := impl.MakeNumber(n)
		places := digitPlaces(text)
		for k := 0; k+1 < len(places); k++ {
			other := []byte(text)
			a, b := text[places[k]], text[places[k+1]]
			other[places[k]], other[places[k+1]] = b, a
			got, is := impl.ReadNumber(string(other))
			zeroAndNine := a == '0' && b == '9' || a == '9' && b == '0'
			if zeroAndNine {
				exchangesOf0And9++
			}
			if is != (a == b || zeroAndNine) || !is && got != 0 {
				t.Errorf("%q, exchanged from %q, is read as %d, %v", other, text, got, is)
			}
		}
	}
	if exchangesOf0And9 == 0 {
		t.Error("0 and 9 were never neighbours")
	}
}

func TestReadNumberOfOtherTexts(t *testing.T) {
	right := "MRN079927398-2"
	if n, is := impl.ReadNumber(right); !is || n != 79927398 {
		t.Errorf("%q is read as %d, %v", right, n, is)
	}
	for _, text := range []string{"", "M", "MRN", "MRN-", "MRN-0", "MRN0-0", "MRN79927398-2", "MRN0079927398-2", "MRN00079927398-2",
		"mrn079927398-2", "MRN079927398_2", "MRN0799273982", "MRN079927398-", "MRN079927398-02", "MRN079927398-2 ", " MRN079927398-2",
		"MRN079927398-2\n", "MRN079927398-2\x00", "MRN+79927398-2", "MRN-79927398-2", "MRN 79927398-2", "MRN07992739_-2", "MRN0x7992739-2", "MRN7_9927398-2",
		"MRN1000000000-9", "MRN000000000-00", "MRN-00000000-0", "MRN+00000000-0", "079927398-2", "MRN079927398-2MRN079927398-2", "MRN٠79927398-2", "MRN079927398−2"} {
		if n, is := impl.ReadNumber(text); is || n != 0 {
			t.Errorf("%q is read as %d, %v", text, n, is)
		}
	}
	for i := 0; i <= len(right); i++ {
		checkRead(t, right[:i])
		checkRead(t, right[i:])
		for b := 0; b < 256; b++ {
			checkRead(t, right[:i]+string([]byte{byte(b)})+right[i:])
			if i < len(right) {
				checkRead(t, right[:i]+string([]byte{byte(b)})+right[i+1:])
				checkRead(t, right[:i]+right[i+1:])
			}
		}
	}
}
