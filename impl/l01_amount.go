// Package impl runs a hospital's books, a file a layer.
package impl

import (
	"cmp"
	"iter"
	"math"
	"math/bits"
)

const MaxTime = 10000000
const MaxNum = 1000000000
const MaxWide = 1000000000000000000
const MaxList = 4096
const UnMicrogram = 1
const UnMilligram = 2
const UnGram = 3
const UnMicrolitre = 4
const UnMillilitre = 5
const UnLitre = 6
const UnPiece = 7

const (
	kindNone = iota
	kindWeight
	kindVolume
	kindPiece
)

type Amount struct {
	N    int64
	D    int64
	Unit int64
}

type whole interface {
	~int | ~int8 | ~int16 | ~int32 | ~int64 | ~uint | ~uint8 | ~uint16 | ~uint32 | ~uint64
}

// A fraction may have parts far above MaxNum: what is reckoned is held against
// the limits only once it is in lowest terms. Its over is 0 or more, its under
// 1 or more; that no part overflows is its maker's care.
type fraction[T whole] struct {
	over  T
	under T
}

func (f fraction[T]) lowest() fraction[T] {
	by := commonDivisor(f.over, f.under)
	return fraction[T]{over: f.over / by, under: f.under / by}
}

func (f fraction[T]) plus(g fraction[T]) fraction[T] {
	return fraction[T]{over: f.over*g.under + g.over*f.under, under: f.under * g.under}
}

func (f fraction[T]) times(g fraction[T]) fraction[T] {
	return fraction[T]{over: f.over * g.over, under: f.under * g.under}
}

// compare multiplies crosswise in 128 bits, since 64 do not hold the products
// of two amounts whose units lie far apart.
func (f fraction[T]) compare(g fraction[T]) int {
	fHigh, fLow := bits.Mul64(uint64(f.over), uint64(g.under))
	gHigh, gLow := bits.Mul64(uint64(g.over), uint64(f.under))
	if fHigh != gHigh {
		return cmp.Compare(fHigh, gHigh)
	}
	return cmp.Compare(fLow, gLow)
}

func commonDivisor[T whole](a, b T) T {
	for b != 0 {
		a, b = b, a%b
	}
	return a
}

func unitKind(unit int64) int {
	switch unit {
	case UnMicrogram, UnMilligram, UnGram:
		return kindWeight
	case UnMicrolitre, UnMillilitre, UnLitre:
		return kindVolume
	case UnPiece:
		return kindPiece
	}
	return kindNone
}

// unitSize tells how many of the least unit of its kind a unit is.
func unitSize(unit int64) int64 {
	switch unit {
	case UnMilligram, UnMillilitre:
		return 1000
	case UnGram, UnLitre:
		return 1000000
	}
	return 1
}

func fractionOf(a Amount) fraction[int64] {
	return fraction[int64]{over: a.N, under: a.D}
}

// inLeastUnit brings amounts of one kind to one unit; unlike Convert it always
// can, since the parts need not be within MaxNum (10 to the 15th at most).
func inLeastUnit(a Amount) fraction[int64] {
	return fraction[int64]{over: a.N * unitSize(a.Unit), under: a.D}
}

func rightAmount(f fraction[int64], unit int64) (Amount, bool) {
	low := f.lowest()
	a := Amount{N: low.over, D: low.under, Unit: unit}
	if !AmountOk(a) {
		return Amount{}, false
	}
	return a, true
}

func AmountOk(a Amount) bool {
	if a.N < 0 || a.N > MaxNum || a.D < 1 || a.D > MaxNum {
		return false
	}
	return unitKind(a.Unit) != kindNone && commonDivisor(a.N, a.D) == 1
}

func MakeAmount(n int64, d int64, unit int64) (Amount, bool) {
	if n < 0 || n > MaxWide || d < 1 || d > MaxWide {
		return Amount{}, false
	}
	return rightAmount(fraction[int64]{over: n, under: d}, unit)
}

func Convert(a Amount, unit int64) (Amount, bool) {
	if !AmountOk(a) || unitKind(a.Unit) != unitKind(unit) {
		return Amount{}, false
	}
	least := inLeastUnit(a)
	least.under *= unitSize(unit)
	return rightAmount(least, unit)
}

func AddAmount(a Amount, b Amount) (Amount, bool) {
	if !AmountOk(a) {
		return Amount{}, false
	}
	same, ok := Convert(b, a.Unit)
	if !ok {
		return Amount{}, false
	}
	// The sum's parts may pass MaxWide (which MakeAmount refuses), but not twice MaxWide.
	return rightAmount(fractionOf(a).plus(fractionOf(same)), a.Unit)
}

func TimesAmount(a Amount, n int64, d int64) (Amount, bool) {
	if !AmountOk(a) || n < 0 || n > MaxNum || d < 1 || d > MaxNum {
		return Amount{}, false
	}
	return rightAmount(fractionOf(a).times(fraction[int64]{over: n, under: d}), a.Unit)
}

func CmpAmount(a Amount, b Amount) int64 {
	if !AmountOk(a) || !AmountOk(b) || unitKind(a.Unit) != unitKind(b.Unit) {
		return 2
	}
	return int64(inLeastUnit(a).compare(inLeastUnit(b)))
}

func Fade(start float64, rate float64, doses []float64) []float64 {
	if len(doses) > MaxList {
		return []float64{}
	}
	behind := make([]float64, 0, len(doses))
	there := start
	for _, dose := range doses {
		// The conversions forbid a fused step: each operation is rounded by itself.
		gone := float64(there * rate)
		kept := float64(there - gone)
		there = kept + dose
		behind = append(behind, there)
	}
	return behind
}

func MeanOf(list []float64) float64 {
	if len(list) > MaxList {
		return math.NaN()
	}
	sum, count := 0.0, 0
	for x := range measured(list) {
		sum += x
		count++
	}
	if count == 0 {
		return math.NaN()
	}
	return sum / float64(count)
}

func measured(list []float64) iter.Seq[float64] {
	return func(yield func(float64) bool) {
		for _, x := range list {
			if !math.IsNaN(x) && !yield(x) {
				return
			}
		}
	}
}
