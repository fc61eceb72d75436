package tests

import (
	"fmt"
	"math"
	"math/rand/v2"
	"testing"

	"loop.example/g01317/impl"
)

func TestPromise4Ridges(t *testing.T) {
	minus, most := number(minusZeroBits), number(0x7f7fffff)
	for _, c := range []struct {
		rows [][]float32
		want []int64
	}{
		{[][]float32{{1, 5}, {2, 5}}, []int64{1, 0}}, {[][]float32{{7, -3}}, []int64{0, 0}}, {[][]float32{{-9}, {-2}, {-2}, {-5}}, []int64{1}},
		{[][]float32{{minus, 0}, {0, minus}}, []int64{0, 0}}, {[][]float32{{-most, 1}, {most, 2}, {3, 3}}, []int64{1, 2}}, {zeroBands(list(12, 128)...), make([]int64, 128)},
		{[][]float32{{1}, {2}, {3}, {4}, {5}, {6}, {7}, {8}, {9}, {10}, {11}, {12}}, []int64{11}}, {[][]float32{{3}, {-4}, {2}}, []int64{0}},
	} {
		ridge, ok := impl.RidgeOf(c.rows)
		checkIntegers(t, fmt.Sprint("RidgeOf ", c.rows), ridge, ok, c.want)
	}
	r := rand.New(rand.NewPCG(41, 3))
	for count := 1; count <= 12; count++ {
		for range 30 {
			rows := anyRows(r, count, 1+r.IntN(128), smallNumbers)
			// From the last row on, the last one that is as great as all before is the first one.
			want := list(len(rows[0]), int64(count-1))
			for k := count - 1; k >= 0; k-- {
				for i, x := range rows[k] {
					if x >= rows[want[i]][i] {
						want[i] = int64(k)
					}
				}
			}
			ridge, ok := impl.RidgeOf(rows)
			checkIntegers(t, fmt.Sprint("RidgeOf ", rows), ridge, ok, want)
		}
	}
	for _, rows := range wrongRows(12) {
		if ridge, ok := impl.RidgeOf(rows); ok || len(ridge) != 0 {
			t.Error("RidgeOf ", rows, ": ", ridge, ok)
		}
	}
}

// smallNumbers are integers from -3 to 3, many of which are equal, with zeros of both signs.
func smallNumbers(r *rand.Rand, count int) []float32 {
	x := make([]float32, count)
	for i := range x {
		x[i] = float32(r.IntN(7) - 3)
		if r.IntN(8) == 0 {
			x[i] = number(minusZeroBits)
		}
	}
	return x
}

func TestPromise4Rates(t *testing.T) {
	minus := number(minusZeroBits)
	for _, c := range []struct {
		list []complex64
		want []float32
	}{
		{[]complex64{1, 1i}, []float32{0.25}}, {[]complex64{1i, 1}, []float32{-0.25}}, {[]complex64{5}, nil}, {[]complex64{1, -1, -1, 1i, 1}, []float32{0.5, 0, -0.25, -0.25}},
		{[]complex64{0, 3, 0}, []float32{0, 0}}, {[]complex64{2, 3 + 3i}, []float32{0.125}}, {[]complex64{complex(minus, minus), complex(minus, minus)}, []float32{0}},
		{list(128, complex64(2i)), make([]float32, 127)}, {[]complex64{complex(1e-30, 0), complex(0, 1e-30)}, []float32{0}}, // the product is narrowed to zeros
	} {
		rates, ok := impl.RatesOf(c.list)
		checkNumbers(t, fmt.Sprint("RatesOf ", c.list), rates, ok, c.want)
	}
	r := rand.New(rand.NewPCG(42, 3))
	for n := 1; n <= 128; n++ {
		for _, make := range []func(*rand.Rand, int) []float32{lightNumbers, middleNumbers, smallNumbers} {
			list, want, re, im := []complex64{}, []float32{}, make(r, n), make(r, n)
			for i := range re {
				list = append(list, complex(re[i], im[i]))
				if i > 0 {
					want = append(want, toldRate(list[i-1], list[i]))
				}
			}
			rates, ok := impl.RatesOf(list)
			checkNumbers(t, fmt.Sprint("RatesOf ", list), rates, ok, want)
		}
	}
}

func TestPromise4RatesThatAreNotTold(t *testing.T) {
	all := [][]complex64{nil, {}, list(129, complex64(1)), list(5000, complex64(1i)), {0x1p64, 0x1p64}, {1, 0x1p64i, 0x1p64}, {1, complex(0x1p127, 0x1p127), complex(0, 4)}}
	for _, wrong := range wrongNumbers() {
		for _, x := range []complex64{complex(wrong, 1), complex(1, wrong), complex(wrong, wrong)} {
			all = append(all, []complex64{x}, []complex64{1, x}, []complex64{x, 1}, append(list(127, complex64(1)), x))
		}
	}
	for _, x := range all {
		if rates, ok := impl.RatesOf(x); ok || len(rates) != 0 {
			t.Error("RatesOf ", x, ": ", rates, ok)
		}
	}
}

func TestPromise4Maxima(t *testing.T) {
	minus, most := number(minusZeroBits), number(0x7f7fffff)
	for _, c := range []struct {
		list []float32
		want []int64
	}{
		{[]float32{0, 2, 1}, []int64{1}}, {[]float32{0, 2, 1, -3}, []int64{1, 3}}, {[]float32{0}, nil}, {[]float32{minus}, nil}, {[]float32{-1}, []int64{0}}, {numbersOf(1), []int64{0}}, {[]float32{most, -most}, []int64{0}},
		{[]float32{2, 2, 2}, []int64{0}}, {[]float32{1, -2, 2, 1}, []int64{1}}, {[]float32{1, 2, 2, 3}, []int64{1, 3}}, {[]float32{3, 2, 1}, []int64{0}}, {[]float32{-1, -2, -3}, []int64{2}}, {make([]float32, 128), nil},
		{[]float32{5, 0, 5, 0, 5}, []int64{0, 2, 4}}, {[]float32{2, 2, 1, 2}, []int64{0, 3}}, {[]float32{2, 1, 1, 2}, []int64{0, 3}}, {numbersOf(0x3f800000, 0x3f800001, 0xbf800001), []int64{1}},
	} {
		maxima, ok := impl.MaximaOf(c.list)
		checkIntegers(t, fmt.Sprint("MaximaOf ", c.list), maxima, ok, c.want)
	}
	r := rand.New(rand.NewPCG(43, 3))
	for n := 1; n <= 128; n++ {
		for _, x := range [][]float32{smallNumbers(r, n), smallNumbers(r, n), anyNumbers(r, n)} {
			maxima, ok := impl.MaximaOf(x)
			checkIntegers(t, fmt.Sprint("MaximaOf ", x), maxima, ok, toldMaxima(x))
		}
	}
	for _, x := range wrongLists() {
		if maxima, ok := impl.MaximaOf(x); ok || len(maxima) != 0 {
			t.Error("MaximaOf ", x, ": ", maxima, ok)
		}
	}
}

// onesAt is a list of zeros with ones at some places, so that these are its maxima.
func onesAt(long int, places ...int) []float32 {
	x := make([]float32, long)
	for _, at := range places {
		x[at] = 1
	}
	return x
}

func TestPromise4LinkedMaxima(t *testing.T) {
	for _, c := range []struct {
		rows [][]float32
		near int64
		want []int64
	}{
		{[][]float32{{0, 2, 0, 0, 1}, {0, 0, 3, 0, 0}}, 1, []int64{1}}, {[][]float32{{0, 2, 0, 0, 1}, {0, 0, 3, 0, 0}}, 2, []int64{1, 4}}, {[][]float32{{0, 2, 0, 0, 1}, {0, 0, 3, 0, 0}}, 0, nil},
		{[][]float32{{0, 2, 0, 0, 1}}, 0, []int64{1, 4}}, {[][]float32{{0}}, 128, nil}, {[][]float32{{1}, {0}}, 128, nil}, {[][]float32{{0}, {1}}, 128, nil}, {[][]float32{{-1}, {2}}, 0, []int64{0}},
		// Places go on from row to row, farther away than near in the end.
		{[][]float32{onesAt(9, 0, 8), onesAt(9, 2), onesAt(9, 4), onesAt(9, 6)}, 2, []int64{0}},
		// Of two places as near, the first one is taken, from which the third row is too far away.
		{[][]float32{onesAt(9, 4), onesAt(9, 2, 6), onesAt(9, 8)}, 2, nil}, {[][]float32{onesAt(9, 4), onesAt(9, 2, 6), onesAt(9, 0)}, 2, []int64{4}},
		{[][]float32{onesAt(9, 4), onesAt(9, 1, 6), onesAt(9, 8)}, 3, []int64{4}}, {[][]float32{onesAt(128, 0), onesAt(128, 127)}, 127, []int64{0}}, {[][]float32{onesAt(128, 0), onesAt(128, 127)}, 126, nil},
		{[][]float32{onesAt(5, 0, 2, 4), make([]float32, 5), onesAt(5, 0, 2, 4)}, 5, nil}, // a row without maxima ends all
	} {
		linked, ok := impl.LinkMaxima(c.rows, c.near)
		checkIntegers(t, fmt.Sprint("LinkMaxima of ", c.rows, c.near), linked, ok, c.want)
	}
	r := rand.New(rand.NewPCG(44, 3))
	for count := 1; count <= 12; count++ {
		for range 100 {
			rows, near := anyRows(r, count, 1+r.IntN(40), smallNumbers), int64(r.IntN(4))
			if r.IntN(3) == 0 {
				near = 128
			}
			linked, ok := impl.LinkMaxima(rows, near)
			checkIntegers(t, fmt.Sprint("LinkMaxima of ", rows, near), linked, ok, toldLink(rows, near))
		}
	}
	for _, rows := range wrongRows(12) {
		if linked, ok := impl.LinkMaxima(rows, 1); ok || len(linked) != 0 {
			t.Error("LinkMaxima of ", rows, ": ", linked, ok)
		}
	}
	for _, near := range []int64{-1, 129, math.MinInt64, math.MaxInt64} {
		for _, rows := range [][][]float32{{{1}}, {{1, 0}, {0, 1}}, {{0}}} {
			if linked, ok := impl.LinkMaxima(rows, near); ok || len(linked) != 0 {
				t.Error("LinkMaxima of ", rows, near, ": ", linked, ok)
			}
		}
	}
}

func TestPromise4Roughness(t *testing.T) {
	for _, c := range []struct {
		b    impl.Bands
		want float32
	}{
		{impl.Bands{Coarse: []float32{0}, Details: [][]float32{{1, 1}, {2}}}, 2}, {impl.Bands{Coarse: []float32{9}, Details: [][]float32{{2, -2}, {1}}}, -2},
		{impl.Bands{Coarse: []float32{0}, Details: [][]float32{{3, 3, 3, 3}, {-3, 3}, {3}}}, 0}, {impl.Bands{Coarse: []float32{5}, Details: [][]float32{{0, 1}, {1}}}, 1},
		{impl.Bands{Coarse: []float32{0}, Details: [][]float32{{1, 1, 1, 1}, {2, 2}, {4}}}, 2},
	} {
		rough, ok := impl.RoughnessOf(c.b)
		checkFound(t, fmt.Sprint("RoughnessOf ", c.b), rough, ok, bitsOf(c.want), true)
	}
	r := rand.New(rand.NewPCG(45, 3))
	for _, b := range goodBands(r) {
		if len(b.Details) < 2 {
			continue
		}
		for k, details := range b.Details {
			b.Details[k] = lightNumbers(r, len(details))
		}
		b.Coarse = make([]float32, len(b.Coarse))
		rough, ok := impl.RoughnessOf(b)
		checkFound(t, fmt.Sprint("RoughnessOf ", b), rough, ok, bitsOf(toldRoughness(b)), true)
	}
	minus, tiny := number(minusZeroBits), float32(0x1.2p-75)
	for _, b := range []impl.Bands{
		{Coarse: []float32{1}, Details: [][]float32{{1}}}, {Coarse: []float32{1, 1}, Details: [][]float32{{1, 2}}}, // one level has no slope
		{Coarse: []float32{1}, Details: [][]float32{{0, 0}, {1}}}, {Coarse: []float32{1}, Details: [][]float32{{1, 1}, {0}}}, {Coarse: []float32{1}, Details: [][]float32{{1, 1}, {minus}}},
		{Coarse: []float32{1}, Details: [][]float32{{1e-30, 0}, {1}}},                                                                  // the square is rounded to 0
		{Coarse: []float32{1}, Details: [][]float32{{tiny, 0}, {1}}},                                                                   // and so is the quotient
		{Coarse: []float32{1}, Details: [][]float32{{0x1p64, 0}, {1}}}, {Coarse: []float32{0x1p64}, Details: [][]float32{{1, 1}, {1}}}, // an energy is infinite
	} {
		rough, ok := impl.RoughnessOf(b)
		checkFound(t, fmt.Sprint("RoughnessOf ", b), rough, ok, 0, false)
	}
	rough, ok := impl.RoughnessOf(impl.Bands{Coarse: []float32{1}, Details: [][]float32{{1, 0}, {tiny}}})
	if !ok || !(rough < -140) {
		t.Error("RoughnessOf the least energy: ", rough, ok)
	}
}
