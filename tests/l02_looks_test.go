package tests

import (
	"fmt"
	"math"
	"math/rand/v2"
	"testing"

	"loop.example/g01317/impl"
)

// zeroBands are bands of zeros with some lengths.
func zeroBands(sizes ...int) [][]float32 {
	bands := [][]float32{}
	for _, n := range sizes {
		bands = append(bands, make([]float32, n))
	}
	return bands
}

// wrongBands are lists that are no bands.
func wrongBands() [][][]float32 {
	all := [][][]float32{
		nil, {}, {nil}, zeroBands(0), zeroBands(2), zeroBands(0, 1), zeroBands(1, 0), zeroBands(2, 1), zeroBands(1, 3), zeroBands(0, 0), zeroBands(3, 2), zeroBands(2, 2, 1), zeroBands(0, 1, 1),
		zeroBands(1, 1, 0), zeroBands(1, 0, 1), zeroBands(1, 1, 1, 1), zeroBands(1, 1, 2), zeroBands(64, 65), zeroBands(65, 65), zeroBands(65, 64), zeroBands(128), zeroBands(1, 2, 1, 1),
		zeroBands(64, 32, 16, 8, 4, 2, 1, 1), zeroBands(63, 32, 16, 8, 4, 2, 1, 1), zeroBands(1, 1, 1, 1, 1, 1, 1), zeroBands(list(2000, 1)...), zeroBands(64, 32, 16, 8, 4, 2, 3),
	}
	for _, wrong := range wrongNumbers() {
		all = append(all, [][]float32{{wrong}}, [][]float32{{wrong}, {1}}, [][]float32{{1}, {wrong}}, [][]float32{{1, 1}, {1, wrong}}, [][]float32{{1, wrong}, {1}, {1}})
	}
	return all
}

func TestPromise3BandsAreTold(t *testing.T) {
	for n := 1; n <= 128; n++ {
		for levels := int64(1); levels <= 6; levels++ {
			bands := toldBands(list(n, float32(-3)), levels, toldHalves[float32])
			if !impl.AreBands(bands) {
				t.Error("AreBands is false for the bands of a list with the length ", n, " and levels ", levels)
			}
			if len(bands[0]) > 1 {
				bands[0] = bands[0][1:]
				bands[1] = append([]float32{1}, bands[1]...)
				if impl.AreBands(bands) {
					t.Error("AreBands is true where a number is in another band, with the length ", n, " and levels ", levels)
				}
			}
		}
	}
	for _, bands := range wrongBands() {
		if impl.AreBands(bands) {
			t.Error("AreBands is true for ", bands)
		}
		if list, ok := impl.DropDeep(impl.LinesScheme(), bands); ok || len(list) != 0 {
			t.Error("DropDeep of ", bands, ": ", list, ok)
		}
		if list, ok := impl.FlatBands(bands); ok || len(list) != 0 {
			t.Error("FlatBands of ", bands, ": ", list, ok)
		}
		if energies, ok := impl.ListEnergies(bands); ok || len(energies) != 0 {
			t.Error("ListEnergies of ", bands, ": ", energies, ok)
		}
		if left, count, ok := impl.SmallOut(bands, 1); ok || len(left) != 0 || count != 0 {
			t.Error("SmallOut of ", bands, ": ", left, count, ok)
		}
	}
}

func TestPromise3FlatBands(t *testing.T) {
	flat, ok := impl.FlatBands([][]float32{{3, 4}, {2}, {1, 5}})
	checkNumbers(t, "FlatBands", flat, ok, []float32{1, 5, 2, 3, 4})
	flat, ok = impl.FlatBands([][]float32{{number(minusZeroBits)}})
	checkNumbers(t, "FlatBands of one number", flat, ok, numbersOf(minusZeroBits))
	r := rand.New(rand.NewPCG(8, 2))
	for n := 1; n <= 128; n++ {
		for levels := int64(1); levels <= 6; levels++ {
			bands := toldBands(anyNumbers(r, n), levels, toldHalves[float32])
			want := []float32{}
			for k := len(bands) - 1; k >= 0; k-- {
				want = append(want, bands[k]...)
			}
			flat, ok := impl.FlatBands(bands)
			checkNumbers(t, "FlatBands", flat, ok, want)
			cut, ok := impl.CutFlat(flat, levels)
			checkToldBands(t, "CutFlat of FlatBands", cut, ok, bands)
		}
	}
}

func TestPromise3ListsThatAreNotCut(t *testing.T) {
	for _, x := range wrongLists() {
		if bands, ok := impl.CutFlat(x, 1); ok || len(bands) != 0 {
			t.Error("CutFlat of ", x, ": ", bands, ok)
		}
	}
	for _, levels := range []int64{0, -1, 7, math.MinInt64, math.MaxInt64} {
		for _, x := range [][]float32{{1}, {1, 2, 3}} {
			if bands, ok := impl.CutFlat(x, levels); ok || len(bands) != 0 {
				t.Error("CutFlat with levels ", levels, ": ", bands, ok)
			}
		}
	}
}

func TestPromise3Energies(t *testing.T) {
	for _, c := range []struct {
		list []float32
		want uint32
	}{
		{[]float32{1, 2}, bitsOf(5)}, {[]float32{-3}, bitsOf(9)}, {numbersOf(minusZeroBits), 0}, {list(128, float32(-0.5)), bitsOf(32)},
		{[]float32{0x1p12, 1, 1}, bitsOf(0x1p24)}, {[]float32{1, 1, 0x1p12}, bitsOf(0x1.000002p24)}, // from left to right
		{[]float32{0x1.001p0, 0x1.001p0}, bitsOf(0x1.002p1)}, {[]float32{0x1p12, 0x1.3988e2p0}, bitsOf(0x1.000002p24)}, // each square is rounded
		{[]float32{0x1p-75}, 0}, {[]float32{0x1p-74, 0x1p-74}, 4}, {[]float32{0x1.fffffep63}, bitsOf(0x1.fffffcp127)},
	} {
		got, ok := impl.EnergyOf(c.list)
		checkFound(t, fmt.Sprint("EnergyOf ", c.list), got, ok, c.want, true)
	}
	for _, x := range append(wrongLists(), []float32{0x1p64}, []float32{0x1.8p63, 0x1.8p63}, numbersOf(0xff7fffff)) {
		got, ok := impl.EnergyOf(x)
		checkFound(t, fmt.Sprint("EnergyOf ", x), got, ok, 0, false)
	}
	energies, ok := impl.ListEnergies([][]float32{{3, 4}, {-2}, {1, 5}})
	checkNumbers(t, "ListEnergies", energies, ok, []float32{25, 4, 26})
	energies, ok = impl.ListEnergies([][]float32{numbersOf(minusZeroBits)})
	checkNumbers(t, "ListEnergies of one number", energies, ok, []float32{0})
	for _, bands := range [][][]float32{{{0x1p64}, {1}}, {{1}, {0x1p64}}, {{0x1.8p63, 0x1.8p63}, {1, 1}}} {
		if energies, ok := impl.ListEnergies(bands); ok || len(energies) != 0 {
			t.Error("ListEnergies of ", bands, ": ", energies, ok)
		}
	}
}

func TestPromise3SmallNumbersAreOut(t *testing.T) {
	minus := number(minusZeroBits)
	for _, c := range []struct {
		bands [][]float32
		limit float32
		want  [][]float32
		count int64
	}{
		{[][]float32{{3, 1}, {1, 0}}, 1, [][]float32{{3, 0}, {1, 0}}, 1},
		{[][]float32{{minus, 0}, {minus}, {minus}}, 0, [][]float32{{0, 0}, {0}, {minus}}, 3},
		{[][]float32{{minus, 0x1p-140}, {2}}, minus, nil, 0},
		{[][]float32{{minus, 0x1p-140}, {2, 0}}, minus, [][]float32{{0, 0x1p-140}, {2, 0}}, 1},
		{[][]float32{{-1, -1.0000001, 1.0000001, 1}, {0, 0}, {0, 0}}, 1, [][]float32{{0, -1.0000001, 1.0000001, 0}, {0, 0}, {0, 0}}, 4},
		{[][]float32{{5}}, 9, [][]float32{{5}}, 0}, {[][]float32{{minus}}, 9, [][]float32{{minus}}, 0},
		{[][]float32{numbersOf(0x7f7fffff, 0xff7fffff), {7}, {-7}}, number(0x7f7fffff), [][]float32{{0, 0}, {0}, {-7}}, 3},
	} {
		left, count, ok := impl.SmallOut(c.bands, c.limit)
		if seen(left) != seen(c.want) || count != c.count || ok != (c.want != nil) {
			t.Error("SmallOut of ", c.bands, " with limit ", c.limit, ": ", left, count, ok, ", want ", c.want, c.count)
		}
	}
	for _, limit := range append(wrongNumbers(), -1, number(0x80000001), -0x1p127) {
		if left, count, ok := impl.SmallOut([][]float32{{3, 1}, {1, 0}}, limit); ok || len(left) != 0 || count != 0 {
			t.Error("SmallOut with limit ", limit, ": ", left, count, ok)
		}
	}
}

// toldCoarse tells CoarseOf, band by band.
func toldCoarse(s impl.Scheme, x []float32, levels, keep int64) []float32 {
	bands := toldBands(x, levels, func(x []float32) ([]float32, []float32) { return toldLiftOnce(s, x) })
	for k := range bands {
		if int64(k) < int64(len(bands)-1)-keep {
			bands[k] = make([]float32, len(bands[k]))
		}
	}
	return toldDropDeep(s, bands)
}

func TestPromise3CoarseLists(t *testing.T) {
	r := rand.New(rand.NewPCG(9, 2))
	for n := 1; n <= 128; n++ {
		for levels := int64(1); levels <= 6; levels++ {
			for _, keep := range []int64{0, 1, 2, 5, 6, 7} {
				s, x := anyScheme(r), middleNumbers(r, n)
				got, ok := impl.CoarseOf(s, x, levels, keep)
				checkTold(t, fmt.Sprint("CoarseOf ", x, " with ", s, levels, keep), got, ok, toldCoarse(s, x, levels, keep))
			}
		}
	}
	got, ok := impl.CoarseOf(impl.LinesScheme(), []float32{1, 3, 2}, 1, 0)
	checkNumbers(t, "CoarseOf 1, 3, 2", got, ok, []float32{1.75, 2.25, 2.75})
	for _, keep := range []int64{1, 2, math.MaxInt64} {
		got, ok = impl.CoarseOf(impl.LinesScheme(), []float32{1, 3, 2}, 1, keep)
		checkNumbers(t, "CoarseOf 1, 3, 2 with all bands", got, ok, []float32{1, 3, 2})
	}
	got, ok = impl.CoarseOf(impl.LinesScheme(), []float32{8}, 6, 0)
	checkNumbers(t, "CoarseOf one number", got, ok, []float32{8})
}

func TestPromise3ListsThatAreNotCoarse(t *testing.T) {
	check := func(s impl.Scheme, x []float32, levels, keep int64) {
		t.Helper()
		if got, ok := impl.CoarseOf(s, x, levels, keep); ok || len(got) != 0 {
			t.Error("CoarseOf ", x, " with ", s, levels, keep, ": ", got, ok)
		}
	}
	for _, x := range wrongLists() {
		check(impl.LinesScheme(), x, 1, 0)
	}
	for _, s := range wrongSchemes() {
		check(s, []float32{1, 2}, 1, 0)
		check(s, []float32{1}, 1, 0)
	}
	for _, c := range [][2]int64{{0, 0}, {-1, 0}, {7, 0}, {math.MaxInt64, 0}, {1, -1}, {6, math.MinInt64}} {
		check(impl.LinesScheme(), []float32{1, 2}, c[0], c[1])
		check(impl.LinesScheme(), []float32{1}, c[0], c[1])
	}
	most := number(0x7f7fffff)
	check(impl.LinesScheme(), []float32{most, 0, most}, 1, 0) // its bands are not finite
	// These bands are finite, but without the first one, what is led back is not.
	s, x := impl.Scheme{Weights: []float32{1, 0, 1}, Scale: 1}, []float32{1e38, -2e38}
	got, ok := impl.CoarseOf(s, x, 1, 1)
	checkNumbers(t, "CoarseOf great numbers with all bands", got, ok, x)
	check(s, x, 1, 0)
}

func TestPromise3GrownLists(t *testing.T) {
	got, ok := impl.GrowList(impl.LinesScheme(), []float32{1, 3})
	checkNumbers(t, "GrowList of 1, 3", got, ok, []float32{1, 2, 3, 3})
	got, ok = impl.GrowList(impl.Scheme{Weights: []float32{1}, Scale: 2}, []float32{6})
	checkNumbers(t, "GrowList of one number", got, ok, []float32{3, -6})
	r := rand.New(rand.NewPCG(10, 2))
	for n := 1; n <= 64; n++ {
		for range 8 {
			s, x := anyScheme(r), anyNumbers(r, n)
			got, ok := impl.GrowList(s, x)
			checkTold(t, fmt.Sprint("GrowList of ", x, " with ", s), got, ok, toldDropOnce(s, x, make([]float32, n)))
		}
	}
	for _, x := range append(wrongLists(), list(65, float32(1)), list(128, float32(1)), numbersOf(0x7f7fffff, 0x7f7fffff)) {
		if got, ok := impl.GrowList(impl.LinesScheme(), x); ok || len(got) != 0 {
			t.Error("GrowList of ", x, ": ", got, ok)
		}
	}
	for _, s := range wrongSchemes() {
		if got, ok := impl.GrowList(s, []float32{1}); ok || len(got) != 0 {
			t.Error("GrowList with ", s, ": ", got, ok)
		}
	}
}
