package tests

import (
	"bytes"
	"math/big"
	"math/rand"
	"slices"
	"testing"

	"loop.example/g00060/impl"
)

// wantedDigest is the sum of each byte and 1 by its power of 257, taken from the last byte on.
func wantedDigest(body []byte) int64 {
	sum, power := int64(0), int64(1)
	for _, b := range slices.Backward(body[:min(len(body), 100000)]) {
		sum = (sum + power*(int64(b)+1)) % 1000000007
		power = power * 257 % 1000000007
	}
	return sum
}

// wideDigest leaves out no multiple of the modulus until the end.
func wideDigest(body []byte) int64 {
	sum := new(big.Int)
	for _, b := range body {
		sum.Mul(sum, big.NewInt(257))
		sum.Add(sum, big.NewInt(int64(b)+1))
	}
	return sum.Mod(sum, big.NewInt(1000000007)).Int64()
}

func checkDigest(t *testing.T, what string, body []byte, want int64) {
	t.Helper()
	if got := impl.Digest(body); got != want {
		t.Errorf("%s: Digest of %d bytes = %d, want %d", what, len(body), got, want)
	}
	if told := wantedDigest(body); told != want {
		t.Errorf("%s: the test itself tells %d, want %d", what, told, want)
	}
}

func randomBytes(coins *rand.Rand, count int) []byte {
	body := make([]byte, count)
	coins.Read(body)
	return body
}

func TestRecordConstants(t *testing.T) {
	got := []int64{impl.MaxDigest, impl.MaxBody, impl.MaxPages, impl.MaxFact, impl.WrNew, impl.WrEdit, impl.WrSign, impl.RcBad, impl.RcWrite, impl.RcNone, impl.RcSigned, impl.RcOpen, impl.RcFull}
	if !slices.Equal(got, []int64{1000000007, 2048, 500, 64, 1, 2, 3, 1, 2, 3, 4, 5, 6}) {
		t.Fatal(got)
	}
}

func TestDigestOfFewBytes(t *testing.T) {
	checkDigest(t, "nothing", nil, 0)
	checkDigest(t, "no byte", []byte{}, 0)
	for b := range 256 {
		checkDigest(t, "one byte", []byte{byte(b)}, int64(b)+1)
		checkDigest(t, "a byte behind a 0", []byte{0, byte(b)}, 257+int64(b)+1)
		checkDigest(t, "a byte ahead of a 0", []byte{byte(b), 0}, (int64(b)+1)*257+1)
		checkDigest(t, "a byte behind a 255", []byte{255, byte(b)}, 256*257+int64(b)+1)
	}
	checkDigest(t, "the given two", []byte{1, 2}, 2*257+3)
	checkDigest(t, "the other way round", []byte{2, 1}, 3*257+2)
	checkDigest(t, "three noughts", []byte{0, 0, 0}, 257*257+257+1)
	checkDigest(t, "three of 255", []byte{255, 255, 255}, 256*(257*257+257+1))
}

func TestDigestAtItsModulus(t *testing.T) {
	// Three bytes never come up to the modulus, four may.
	checkDigest(t, "four noughts", []byte{0, 0, 0, 0}, 257*257*257+257*257+257+1)
	checkDigest(t, "four of 255", []byte{255, 255, 255, 255}, 256*(257*257*257+257*257+257+1)-4*1000000007)
	// 1000000007 is 58, 234, 70 and 157 in the powers of 257.
	checkDigest(t, "one below it", []byte{57, 233, 69, 155}, 1000000006)
	checkDigest(t, "just it", []byte{57, 233, 69, 156}, 0)
	checkDigest(t, "one above it", []byte{57, 233, 69, 157}, 1)
	checkDigest(t, "a byte behind just it", []byte{57, 233, 69, 156, 7}, 8)
	checkDigest(t, "a byte behind one below it", []byte{57, 233, 69, 155, 255}, 1000000007-257+256)
}

func TestDigestOfManyBytes(t *testing.T) {
	coins := rand.New(rand.NewSource(130))
	for range 2000 {
		body := randomBytes(coins, coins.Intn(60))
		checkDigest(t, "some bytes", body, wideDigest(body))
	}
	for _, count := range []int{100, 255, 256, 257, 2047, 2048, 2049, 5000} {
		for _, body := range [][]byte{randomBytes(coins, count), make([]byte, count), bytes.Repeat([]byte{255}, count)} {
			checkDigest(t, "many bytes", body, wideDigest(body))
		}
	}
}

// The first 100000 bytes count, and what stands behind them does not.
func TestDigestOfTooManyBytes(t *testing.T) {
	coins := rand.New(rand.NewSource(131))
	for _, body := range [][]byte{randomBytes(coins, 200000), make([]byte, 200000), bytes.Repeat([]byte{255}, 200000)} {
		whole := wantedDigest(body[:100000])
		checkDigest(t, "one byte fewer", body[:99999], wantedDigest(body[:99999]))
		checkDigest(t, "just as many", body[:100000], whole)
		checkDigest(t, "one byte more", body[:100001], whole)
		checkDigest(t, "twice as many", body, whole)
		if impl.Digest(body[:99999]) == whole {
			t.Error("the last byte of them does not count")
		}
		other := slices.Clone(body)
		other[100000]++
		checkDigest(t, "another byte behind them", other, whole)
		other[99999]++
		if impl.Digest(other) == whole {
			t.Error("another byte at their end does not count")
		}
	}
}

// A byte that is changed, or exchanged with another one beside it, is told.
func TestDigestShowsSlips(t *testing.T) {
	coins := rand.New(rand.NewSource(132))
	for range 5000 {
		body := randomBytes(coins, 2+coins.Intn(40))
		digest, at := impl.Digest(body), coins.Intn(len(body)-1)
		other := slices.Clone(body)
		other[at] += byte(1 + coins.Intn(255))
		if impl.Digest(other) == digest {
			t.Fatalf("%v and %v have one digest", body, other)
		}
		other = slices.Clone(body)
		other[at], other[at+1] = other[at+1], other[at]
		if body[at] != body[at+1] && impl.Digest(other) == digest {
			t.Fatalf("%v and %v have one digest", body, other)
		}
	}
}

func TestDigestLeavesItsBody(t *testing.T) {
	room := []byte("body and room")
	if one, two := impl.Digest(room[:4]), impl.Digest(room[:4]); one != two || string(room) != "body and room" {
		t.Fatal(one, two, string(room))
	}
}
