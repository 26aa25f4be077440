package tests

import (
	"math"
	"math/big"
	"math/rand"
	"testing"

	"loop.example/g00060/impl"
)

// The tests of amounts hold the program against exact fractions of any size (math/big).

var partEdges = []int64{math.MinInt64, -1000, -1, 0, 1, 2, 3, 7, 999, 1000, 1001, 1000000, 999999937, impl.MaxNum - 1, impl.MaxNum, impl.MaxNum + 1, math.MaxInt64}

var unitEdges = []int64{math.MinInt64, -1, 0, 1, 2, 3, 4, 5, 6, 7, 8, math.MaxInt64}

var kinds = map[int64]string{1: "weight", 2: "weight", 3: "weight", 4: "volume", 5: "volume", 6: "volume", 7: "piece"}

var sizes = map[int64]int64{1: 1, 2: 1000, 3: 1000000, 4: 1, 5: 1000, 6: 1000000, 7: 1}

func isRight(a impl.Amount) bool {
	if a.N < 0 || a.N > 1000000000 || a.D < 1 || a.D > 1000000000 || kinds[a.Unit] == "" {
		return false
	}
	return new(big.Int).GCD(nil, nil, big.NewInt(a.N), big.NewInt(a.D)).Cmp(big.NewInt(1)) == 0
}

// inUnit is what a right amount is in a unit of its kind.
func inUnit(a impl.Amount, unit int64) *big.Rat {
	r := big.NewRat(a.N, a.D)
	return r.Mul(r, big.NewRat(sizes[a.Unit], sizes[unit]))
}

// wantedAmount is the right amount of an exact fraction, if there is one.
func wantedAmount(r *big.Rat, unit int64) (impl.Amount, bool) {
	most := big.NewInt(1000000000)
	if kinds[unit] == "" || r.Num().Cmp(most) > 0 || r.Denom().Cmp(most) > 0 {
		return impl.Amount{}, false
	}
	return impl.Amount{N: r.Num().Int64(), D: r.Denom().Int64(), Unit: unit}, true
}

func wantedConvert(a impl.Amount, unit int64) (impl.Amount, bool) {
	if !isRight(a) || kinds[unit] == "" || kinds[a.Unit] != kinds[unit] {
		return impl.Amount{}, false
	}
	return wantedAmount(inUnit(a, unit), unit)
}

func edgeAmounts() []impl.Amount {
	var list []impl.Amount
	for _, n := range partEdges {
		for _, d := range partEdges {
			for _, unit := range unitEdges {
				list = append(list, impl.Amount{N: n, D: d, Unit: unit})
			}
		}
	}
	return list
}

func rightAmounts() []impl.Amount {
	var list []impl.Amount
	for _, a := range edgeAmounts() {
		if isRight(a) {
			list = append(list, a)
		}
	}
	return list
}

func randomAmounts(seed int64, count int) []impl.Amount {
	coins := rand.New(rand.NewSource(seed))
	tops := []int64{10, 1000, 1000000, impl.MaxNum}
	var list []impl.Amount
	for len(list) < count {
		top := tops[coins.Intn(len(tops))]
		a := impl.Amount{N: coins.Int63n(top + 1), D: 1 + coins.Int63n(top), Unit: 1 + coins.Int63n(7)}
		if isRight(a) {
			list = append(list, a)
		}
	}
	return list
}

// Each is not right in one way alone.
var wrongAmounts = []impl.Amount{
	{},
	{N: 1, D: 0, Unit: impl.UnGram},
	{N: 1, D: -1, Unit: impl.UnGram},
	{N: -1, D: 1, Unit: impl.UnGram},
	{N: -1, D: -1, Unit: impl.UnGram},
	{N: 2, D: 4, Unit: impl.UnGram},
	{N: 0, D: 2, Unit: impl.UnGram},
	{N: impl.MaxNum, D: impl.MaxNum, Unit: impl.UnGram},
	{N: impl.MaxNum + 1, D: 1, Unit: impl.UnGram},
	{N: 1, D: impl.MaxNum + 1, Unit: impl.UnGram},
	{N: math.MaxInt64, D: 1, Unit: impl.UnGram},
	{N: math.MinInt64, D: 1, Unit: impl.UnGram},
	{N: 1, D: math.MaxInt64, Unit: impl.UnGram},
	{N: 1, D: math.MinInt64, Unit: impl.UnGram},
	{N: math.MinInt64, D: math.MinInt64, Unit: impl.UnGram},
	{N: 1, D: 1, Unit: 0},
	{N: 1, D: 1, Unit: 8},
	{N: 1, D: 1, Unit: -1},
	{N: 1, D: 1, Unit: math.MaxInt64},
	{N: 1, D: 1, Unit: math.MinInt64},
}

func checkAmount(t *testing.T, got impl.Amount, is bool, want impl.Amount, should bool, what ...any) {
	t.Helper()
	if got != want || is != should {
		t.Fatalf("%v: got %v %v, want %v %v", what, got, is, want, should)
	}
}

func TestUnitsAndLimits(t *testing.T) {
	units := []int64{impl.UnMicrogram, impl.UnMilligram, impl.UnGram, impl.UnMicrolitre, impl.UnMillilitre, impl.UnLitre, impl.UnPiece}
	for i, u := range units {
		if u != int64(i)+1 {
			t.Error("unit", i+1, "is", u)
		}
	}
	if impl.MaxNum != 1000000000 || impl.MaxWide != 1000000000000000000 || impl.MaxList != 4096 || impl.MaxTime != 10000000 {
		t.Error("a limit is not as the document has it")
	}
}

func TestAmountOk(t *testing.T) {
	for _, a := range wrongAmounts {
		if impl.AmountOk(a) {
			t.Error("not right:", a)
		}
	}
	for _, a := range []impl.Amount{
		{N: 0, D: 1, Unit: impl.UnMicrogram},
		{N: impl.MaxNum, D: 1, Unit: impl.UnMilligram},
		{N: 1, D: impl.MaxNum, Unit: impl.UnGram},
		{N: impl.MaxNum, D: impl.MaxNum - 1, Unit: impl.UnMicrolitre},
		{N: impl.MaxNum - 1, D: impl.MaxNum, Unit: impl.UnMillilitre},
		{N: 3, D: 2, Unit: impl.UnLitre},
		{N: 1, D: 1, Unit: impl.UnPiece},
	} {
		if !impl.AmountOk(a) {
			t.Error("right:", a)
		}
	}
	for _, a := range edgeAmounts() {
		if impl.AmountOk(a) != isRight(a) {
			t.Fatal(a, impl.AmountOk(a))
		}
	}
}

func TestMakeAmount(t *testing.T) {
	for _, c := range []struct {
		n, d, unit int64
		want       impl.Amount
		is         bool
	}{
		{6, 4, impl.UnGram, impl.Amount{N: 3, D: 2, Unit: impl.UnGram}, true},
		{0, 5, impl.UnPiece, impl.Amount{N: 0, D: 1, Unit: impl.UnPiece}, true},
		{0, impl.MaxWide, impl.UnLitre, impl.Amount{N: 0, D: 1, Unit: impl.UnLitre}, true},
		{impl.MaxWide, impl.MaxWide, impl.UnGram, impl.Amount{N: 1, D: 1, Unit: impl.UnGram}, true},
		{impl.MaxWide, impl.MaxNum, impl.UnGram, impl.Amount{N: impl.MaxNum, D: 1, Unit: impl.UnGram}, true},
		{impl.MaxNum, impl.MaxWide, impl.UnGram, impl.Amount{N: 1, D: impl.MaxNum, Unit: impl.UnGram}, true},
		{impl.MaxNum, 1, impl.UnGram, impl.Amount{N: impl.MaxNum, D: 1, Unit: impl.UnGram}, true},
		{1, impl.MaxNum, impl.UnGram, impl.Amount{N: 1, D: impl.MaxNum, Unit: impl.UnGram}, true},
		{impl.MaxNum + 1, 1, impl.UnGram, impl.Amount{}, false},
		{1, impl.MaxNum + 1, impl.UnGram, impl.Amount{}, false},
		{impl.MaxWide + 1, impl.MaxWide + 1, impl.UnGram, impl.Amount{}, false},
		// In lowest terms these would be 1000001 / 1 and 1 / 1000001.
		{impl.MaxWide + 1, 999999000001, impl.UnPiece, impl.Amount{}, false},
		{999999000001, impl.MaxWide + 1, impl.UnPiece, impl.Amount{}, false},
		{2 * impl.MaxWide, impl.MaxWide, impl.UnGram, impl.Amount{}, false},
		{impl.MaxWide, 2 * impl.MaxWide, impl.UnGram, impl.Amount{}, false},
		{0, impl.MaxWide + 1, impl.UnGram, impl.Amount{}, false},
		{1, 0, impl.UnGram, impl.Amount{}, false},
		{0, 0, impl.UnGram, impl.Amount{}, false},
		{-1, 1, impl.UnGram, impl.Amount{}, false},
		{-1, -1, impl.UnGram, impl.Amount{}, false},
		{math.MinInt64, math.MinInt64, impl.UnGram, impl.Amount{}, false},
		{math.MaxInt64, math.MaxInt64, impl.UnGram, impl.Amount{}, false},
		{1, 1, 0, impl.Amount{}, false},
		{1, 1, 8, impl.Amount{}, false},
	} {
		got, is := impl.MakeAmount(c.n, c.d, c.unit)
		checkAmount(t, got, is, c.want, c.is, "make", c.n, c.d, c.unit)
	}
}

func TestMakeAmountAtTheEdges(t *testing.T) {
	parts := append([]int64{impl.MaxWide - impl.MaxNum, impl.MaxWide - 1, impl.MaxWide, impl.MaxWide + 1, impl.MaxWide / 3}, partEdges...)
	for _, n := range parts {
		for _, d := range parts {
			for _, unit := range unitEdges {
				var want impl.Amount
				should := false
				if n >= 0 && n <= 1000000000000000000 && d >= 1 && d <= 1000000000000000000 {
					want, should = wantedAmount(big.NewRat(n, d), unit)
				}
				got, is := impl.MakeAmount(n, d, unit)
				checkAmount(t, got, is, want, should, "make", n, d, unit)
				if is && !impl.AmountOk(got) {
					t.Fatal("made, and not right", got)
				}
			}
		}
	}
}

func TestConvert(t *testing.T) {
	for _, c := range []struct {
		a    impl.Amount
		unit int64
		want impl.Amount
		is   bool
	}{
		{impl.Amount{N: 3, D: 2, Unit: impl.UnGram}, impl.UnMilligram, impl.Amount{N: 1500, D: 1, Unit: impl.UnMilligram}, true},
		{impl.Amount{N: 3, D: 2, Unit: impl.UnGram}, impl.UnMicrogram, impl.Amount{N: 1500000, D: 1, Unit: impl.UnMicrogram}, true},
		{impl.Amount{N: 1, D: 1, Unit: impl.UnMicrolitre}, impl.UnLitre, impl.Amount{N: 1, D: 1000000, Unit: impl.UnLitre}, true},
		{impl.Amount{N: 0, D: 1, Unit: impl.UnMicrolitre}, impl.UnLitre, impl.Amount{N: 0, D: 1, Unit: impl.UnLitre}, true},
		{impl.Amount{N: 5, D: 3, Unit: impl.UnPiece}, impl.UnPiece, impl.Amount{N: 5, D: 3, Unit: impl.UnPiece}, true},
		{impl.Amount{N: 1000, D: 1, Unit: impl.UnGram}, impl.UnMicrogram, impl.Amount{N: impl.MaxNum, D: 1, Unit: impl.UnMicrogram}, true},
		{impl.Amount{N: 1001, D: 1, Unit: impl.UnGram}, impl.UnMicrogram, impl.Amount{}, false},
		{impl.Amount{N: 1, D: 1000, Unit: impl.UnMicrogram}, impl.UnGram, impl.Amount{N: 1, D: impl.MaxNum, Unit: impl.UnGram}, true},
		{impl.Amount{N: 1, D: 1001, Unit: impl.UnMicrogram}, impl.UnGram, impl.Amount{}, false},
		{impl.Amount{N: 1, D: 1, Unit: impl.UnGram}, impl.UnLitre, impl.Amount{}, false},
		{impl.Amount{N: 0, D: 1, Unit: impl.UnGram}, impl.UnMicrolitre, impl.Amount{}, false},
		{impl.Amount{N: 1, D: 1, Unit: impl.UnPiece}, impl.UnMicrogram, impl.Amount{}, false},
		{impl.Amount{N: 2, D: 4, Unit: impl.UnGram}, impl.UnGram, impl.Amount{}, false},
		{impl.Amount{N: 1, D: 1, Unit: 8}, 8, impl.Amount{}, false},
	} {
		got, is := impl.Convert(c.a, c.unit)
		checkAmount(t, got, is, c.want, c.is, "convert", c.a, c.unit)
	}
	for _, a := range append(edgeAmounts(), randomAmounts(1, 5000)...) {
		for _, unit := range unitEdges {
			want, should := wantedConvert(a, unit)
			got, is := impl.Convert(a, unit)
			checkAmount(t, got, is, want, should, "convert", a, unit)
		}
	}
}

func TestConvertThereAndBack(t *testing.T) {
	turned := map[[2]int64]bool{}
	for _, a := range append(rightAmounts(), randomAmounts(2, 5000)...) {
		for unit := int64(1); unit <= 7; unit++ {
			there, is := impl.Convert(a, unit)
			if !is {
				continue
			}
			turned[[2]int64{a.Unit, unit}] = true
			if !impl.AmountOk(there) || there.Unit != unit {
				t.Fatal(a, unit, there)
			}
			back, is := impl.Convert(there, a.Unit)
			checkAmount(t, back, is, a, true, "there and back", a, unit)
		}
	}
	if len(turned) != 3*3+3*3+1 {
		t.Error("pairs of units that were turned into one another:", len(turned))
	}
}

func wantedSum(a, b impl.Amount) (impl.Amount, bool) {
	same, is := wantedConvert(b, a.Unit)
	if !isRight(a) || !is {
		return impl.Amount{}, false
	}
	return wantedAmount(new(big.Rat).Add(inUnit(a, a.Unit), inUnit(same, a.Unit)), a.Unit)
}

func TestAddAmount(t *testing.T) {
	for _, c := range []struct {
		a, b, want impl.Amount
		is         bool
	}{
		{impl.Amount{N: 3, D: 2, Unit: impl.UnGram}, impl.Amount{N: 250, D: 1, Unit: impl.UnMilligram}, impl.Amount{N: 7, D: 4, Unit: impl.UnGram}, true},
		{impl.Amount{N: 1, D: 2, Unit: impl.UnPiece}, impl.Amount{N: 1, D: 2, Unit: impl.UnPiece}, impl.Amount{N: 1, D: 1, Unit: impl.UnPiece}, true},
		// The sum's parts are above MaxWide before they are in lowest terms.
		{impl.Amount{N: impl.MaxNum - 1, D: impl.MaxNum, Unit: impl.UnGram}, impl.Amount{N: impl.MaxNum - 1, D: impl.MaxNum, Unit: impl.UnGram}, impl.Amount{N: impl.MaxNum - 1, D: impl.MaxNum / 2, Unit: impl.UnGram}, true},
		{impl.Amount{N: impl.MaxNum - 1, D: 1, Unit: impl.UnLitre}, impl.Amount{N: 1, D: 1, Unit: impl.UnLitre}, impl.Amount{N: impl.MaxNum, D: 1, Unit: impl.UnLitre}, true},
		{impl.Amount{N: impl.MaxNum, D: 1, Unit: impl.UnLitre}, impl.Amount{N: 1, D: 1, Unit: impl.UnLitre}, impl.Amount{}, false},
		{impl.Amount{N: 1, D: impl.MaxNum, Unit: impl.UnLitre}, impl.Amount{N: 1, D: 7, Unit: impl.UnLitre}, impl.Amount{}, false},
		// b alone cannot be told in a's unit, though the sum (1 / 1001) could.
		{impl.Amount{N: 1, D: 1000000, Unit: impl.UnGram}, impl.Amount{N: 998999, D: 1001, Unit: impl.UnMicrogram}, impl.Amount{}, false},
		{impl.Amount{N: 1, D: 1, Unit: impl.UnGram}, impl.Amount{N: 1, D: 1, Unit: impl.UnLitre}, impl.Amount{}, false},
		{impl.Amount{N: 1, D: 1, Unit: impl.UnGram}, impl.Amount{N: 0, D: 1, Unit: impl.UnPiece}, impl.Amount{}, false},
	} {
		got, is := impl.AddAmount(c.a, c.b)
		checkAmount(t, got, is, c.want, c.is, "add", c.a, c.b)
	}
	list := append(append(rightAmounts(), wrongAmounts...), randomAmounts(3, 100)...)
	for _, a := range list {
		for _, b := range list {
			want, should := wantedSum(a, b)
			got, is := impl.AddAmount(a, b)
			checkAmount(t, got, is, want, should, "add", a, b)
		}
	}
}

func TestAddAmountHangsOnNoOrder(t *testing.T) {
	list := append(rightAmounts(), randomAmounts(4, 200)...)
	both := 0
	for _, a := range list {
		for _, b := range list {
			x, is := impl.AddAmount(a, b)
			y, fine := impl.AddAmount(b, a)
			if !is || !fine {
				continue
			}
			both++
			if impl.CmpAmount(x, y) != 0 || x.Unit != a.Unit || y.Unit != b.Unit {
				t.Fatal(a, b, x, y)
			}
			turned, is := impl.Convert(y, a.Unit)
			checkAmount(t, turned, is, x, true, "the other way round", a, b)
		}
	}
	if both < 10000 {
		t.Error("too few pairs have an answer both ways:", both)
	}
}

func TestTimesAmount(t *testing.T) {
	half := impl.Amount{N: 1, D: 2, Unit: impl.UnMillilitre}
	for _, c := range []struct {
		a    impl.Amount
		n, d int64
		want impl.Amount
		is   bool
	}{
		{half, 4, 3, impl.Amount{N: 2, D: 3, Unit: impl.UnMillilitre}, true},
		{half, 0, 7, impl.Amount{N: 0, D: 1, Unit: impl.UnMillilitre}, true},
		{half, impl.MaxNum, impl.MaxNum, half, true},
		{half, impl.MaxNum, 1, impl.Amount{N: impl.MaxNum / 2, D: 1, Unit: impl.UnMillilitre}, true},
		{half, 1, impl.MaxNum / 2, impl.Amount{N: 1, D: impl.MaxNum, Unit: impl.UnMillilitre}, true},
		{half, 1, impl.MaxNum/2 + 1, impl.Amount{}, false},
		{half, impl.MaxNum + 1, impl.MaxNum, impl.Amount{}, false},
		{half, 2 * impl.MaxNum, impl.MaxNum, impl.Amount{}, false},
		{half, impl.MaxNum, 2 * impl.MaxNum, impl.Amount{}, false},
		{half, 0, impl.MaxNum + 1, impl.Amount{}, false},
		{half, 1, 0, impl.Amount{}, false},
		{half, -1, 1, impl.Amount{}, false},
		{half, -1, -1, impl.Amount{}, false},
	} {
		got, is := impl.TimesAmount(c.a, c.n, c.d)
		checkAmount(t, got, is, c.want, c.is, "times", c.a, c.n, c.d)
	}
	parts := append([]int64{2 * impl.MaxNum, 128, 3125}, partEdges...)
	for _, a := range append(append(rightAmounts(), wrongAmounts...), randomAmounts(5, 100)...) {
		for _, n := range parts {
			for _, d := range parts {
				var want impl.Amount
				should := false
				if isRight(a) && n >= 0 && n <= 1000000000 && d >= 1 && d <= 1000000000 {
					want, should = wantedAmount(new(big.Rat).Mul(big.NewRat(a.N, a.D), big.NewRat(n, d)), a.Unit)
				}
				got, is := impl.TimesAmount(a, n, d)
				checkAmount(t, got, is, want, should, "times", a, n, d)
			}
		}
	}
}

func TestCmpAmount(t *testing.T) {
	for _, c := range []struct {
		a, b impl.Amount
		want int64
	}{
		{impl.Amount{N: 3, D: 2, Unit: impl.UnGram}, impl.Amount{N: 1500, D: 1, Unit: impl.UnMilligram}, 0},
		{impl.Amount{N: 0, D: 1, Unit: impl.UnLitre}, impl.Amount{N: 0, D: 1, Unit: impl.UnMicrolitre}, 0},
		{impl.Amount{N: 1, D: 3, Unit: impl.UnPiece}, impl.Amount{N: 1, D: 2, Unit: impl.UnPiece}, -1},
		// Near to each other, and neither can be told in the other's unit.
		{impl.Amount{N: impl.MaxNum, D: 999999937, Unit: impl.UnGram}, impl.Amount{N: 1000001, D: 1, Unit: impl.UnMicrogram}, -1},
		{impl.Amount{N: impl.MaxNum - 1, D: impl.MaxNum, Unit: impl.UnLitre}, impl.Amount{N: impl.MaxNum - 2, D: impl.MaxNum - 1, Unit: impl.UnLitre}, 1},
		// The products crosswise are above 64 bits.
		{impl.Amount{N: impl.MaxNum, D: 1, Unit: impl.UnGram}, impl.Amount{N: 1, D: impl.MaxNum, Unit: impl.UnMicrogram}, 1},
		{impl.Amount{N: 1, D: impl.MaxNum, Unit: impl.UnMicrogram}, impl.Amount{N: impl.MaxNum, D: 1, Unit: impl.UnGram}, -1},
		{impl.Amount{N: 1, D: 1, Unit: impl.UnGram}, impl.Amount{N: 1, D: 1, Unit: impl.UnLitre}, 2},
		{impl.Amount{N: 0, D: 1, Unit: impl.UnGram}, impl.Amount{N: 0, D: 1, Unit: impl.UnPiece}, 2},
		{impl.Amount{}, impl.Amount{}, 2},
	} {
		if got := impl.CmpAmount(c.a, c.b); got != c.want {
			t.Error(c.a, c.b, got, c.want)
		}
	}
	list := append(append(rightAmounts(), wrongAmounts...), randomAmounts(6, 200)...)
	for _, a := range list {
		for _, b := range list {
			want := int64(2)
			if isRight(a) && isRight(b) && kinds[a.Unit] == kinds[b.Unit] {
				want = int64(inUnit(a, b.Unit).Cmp(inUnit(b, b.Unit)))
			}
			if got := impl.CmpAmount(a, b); got != want {
				t.Fatal(a, b, got, want)
			}
		}
	}
}
