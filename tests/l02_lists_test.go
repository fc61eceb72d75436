package tests

import (
	"fmt"
	"math"
	"slices"
	"testing"

	"loop.example/g01317/impl"
)

// wrongNumbers are those that are not finite.
func wrongNumbers() []float32 {
	return numbersOf(infinityBits, 0xff800000, notANumberBits, 0x7f800001, 0xffffffff)
}

func TestPromise3Lists(t *testing.T) {
	for _, count := range []int{1, 2, 127, 128} {
		for _, x := range numbersOf(0, minusZeroBits, 1, 0x7f7fffff, 0xff7fffff, 0x3f800000) {
			if !impl.IsList(list(count, x)) {
				t.Error("IsList is false for a list of ", count, x)
			}
		}
		for _, wrong := range wrongNumbers() {
			for _, at := range []int{0, count / 2, count - 1} {
				x := list(count, float32(1))
				x[at] = wrong
				if impl.IsList(x) {
					t.Error("IsList is true for ", x)
				}
			}
		}
	}
	for _, x := range [][]float32{nil, {}, list(129, float32(1)), list(5000, float32(1))} {
		if impl.IsList(x) {
			t.Error("IsList is true for a list with the length ", len(x))
		}
	}
}

func TestPromise3IntegersAreTold(t *testing.T) {
	for _, count := range []int{1, 2, 127, 128} {
		for _, n := range []int64{0, 1, -1, 1000000, -1000000} {
			if !impl.AreIntegers(list(count, n)) {
				t.Error("AreIntegers is false for a list of ", count, n)
			}
		}
		for _, wrong := range []int64{1000001, -1000001, 1 << 32, math.MaxInt64, math.MinInt64} {
			for _, at := range []int{0, count / 2, count - 1} {
				x := list(count, int64(7))
				x[at] = wrong
				if impl.AreIntegers(x) {
					t.Error("AreIntegers is true for ", x)
				}
			}
		}
	}
	for _, x := range [][]int64{nil, {}, list(129, int64(1)), list(5000, int64(1))} {
		if impl.AreIntegers(x) {
			t.Error("AreIntegers is true for a list with the length ", len(x))
		}
	}
}

func TestPromise3Mirrors(t *testing.T) {
	for _, c := range []struct{ n, i, want int64 }{
		{4, -1, 1}, {4, 4, 2}, {4, 0, 0}, {4, 3, 3}, {4, -3, 3}, {4, -4, 2}, {4, -6, 0}, {4, 6, 0}, {4, 7, 1}, {4, 9, 3},
		{1, 0, 0}, {1, 9, 0}, {1, -1000000, 0}, {1, 1000000, 0}, {2, -1, 1}, {2, 2, 0}, {2, 3, 1}, {2, 1000000, 0}, {2, -999999, 1},
		{3, 1000000, 0}, {3, -1000000, 0}, {128, 127, 127}, {128, 128, 126}, {128, 1000000, 2}, {128, -1000000, 2},
	} {
		if got, ok := impl.MirrorAt(c.n, c.i); !ok || got != c.want {
			t.Errorf("MirrorAt(%d, %d): got %d, %v, want %d", c.n, c.i, got, ok, c.want)
		}
	}
	for n := range 128 {
		for i := -700; i <= 700; i++ {
			if got, ok := impl.MirrorAt(int64(n+1), int64(i)); !ok || got != int64(toldMirror(n+1, i)) {
				t.Fatalf("MirrorAt(%d, %d): got %d, %v, want %d", n+1, i, got, ok, toldMirror(n+1, i))
			}
		}
	}
	for _, c := range [][2]int64{
		{0, 0}, {-1, 0}, {129, 0}, {math.MinInt64, 0}, {math.MaxInt64, 5}, {4, 1000001}, {4, -1000001}, {1, 1000001}, {1, math.MinInt64}, {4, math.MaxInt64},
	} {
		if got, ok := impl.MirrorAt(c[0], c[1]); ok || got != 0 {
			t.Errorf("MirrorAt(%d, %d): got %d, %v, want a failure", c[0], c[1], got, ok)
		}
	}
}

func TestPromise3EvensAndOdds(t *testing.T) {
	for _, c := range []struct{ list, evens, odds []int64 }{
		{[]int64{5}, []int64{5}, nil}, {[]int64{5, 6}, []int64{5}, []int64{6}}, {[]int64{5, 6, 7}, []int64{5, 7}, []int64{6}},
		{[]int64{1000000, -1000000, 0, 4}, []int64{1000000, 0}, []int64{-1000000, 4}},
	} {
		evens, odds, ok := impl.SplitIntegers(c.list)
		if !ok || !slices.Equal(evens, c.evens) || !slices.Equal(odds, c.odds) {
			t.Error("SplitIntegers of ", c.list, ": ", evens, odds, ok)
		}
	}
	for _, count := range []int{63, 64, 127, 128} {
		x := make([]int64, count)
		for i := range x {
			x[i] = int64(i * i)
		}
		wantEvens, wantOdds := toldHalves(x)
		evens, odds, ok := impl.SplitIntegers(x)
		if !ok || !slices.Equal(evens, wantEvens) || !slices.Equal(odds, wantOdds) {
			t.Error("SplitIntegers of a list with the length ", count, ": ", evens, odds, ok)
		}
	}
	for _, x := range wrongIntegers() {
		if evens, odds, ok := impl.SplitIntegers(x); ok || len(evens)+len(odds) != 0 {
			t.Error("SplitIntegers of what are no integers: ", evens, odds, ok)
		}
	}
}

// wrongIntegers are lists that are no integers.
func wrongIntegers() [][]int64 {
	return [][]int64{nil, {}, list(129, int64(0)), {1000001}, {-1000001}, {0, 0, 1000001}, {3, -1000001, 3}, {math.MaxInt64, 1}, {1, math.MinInt64}}
}

func checkIntegers(t *testing.T, what string, got []int64, ok bool, want []int64) {
	t.Helper()
	if !ok || !slices.Equal(got, want) {
		t.Errorf("%s: got %v, %v, want %v", what, got, ok, want)
	}
}

func checkNumbers(t *testing.T, what string, got []float32, ok bool, want []float32) {
	t.Helper()
	if !ok || !sameNumbers(got, want) {
		t.Errorf("%s: got %v, %v, want %v", what, got, ok, want)
	}
}

// checkTold checks numbers that a function has to return if all are finite.
func checkTold(t *testing.T, what string, got []float32, ok bool, want []float32) {
	t.Helper()
	if finite(want) {
		checkNumbers(t, what, got, ok, want)
	} else if ok || len(got) != 0 {
		t.Errorf("%s: got %v, %v, want a failure", what, got, ok)
	}
}

// checkToldBands does so for bands.
func checkToldBands(t *testing.T, what string, got [][]float32, ok bool, want [][]float32) {
	t.Helper()
	if !allFinite(want) {
		want = nil
	}
	if ok != (want != nil) || seen(got) != seen(want) {
		t.Errorf("%s: got %v, %v, want %v", what, got, ok, want)
	}
}

func TestPromise3BandsHaveSizes(t *testing.T) {
	for _, c := range []struct {
		n, levels int64
		want      string
	}{
		{5, 2, "[2 1 2]"}, {1, 1, "[1]"}, {1, 6, "[1]"}, {2, 1, "[1 1]"}, {2, 6, "[1 1]"}, {3, 1, "[1 2]"}, {3, 2, "[1 1 1]"}, {3, 6, "[1 1 1]"},
		{128, 6, "[64 32 16 8 4 2 2]"}, {127, 6, "[63 32 16 8 4 2 2]"}, {65, 6, "[32 16 8 4 2 1 2]"}, {64, 6, "[32 16 8 4 2 1 1]"}, {33, 6, "[16 8 4 2 1 1 1]"}, {128, 1, "[64 64]"},
	} {
		if got, ok := impl.BandSizes(c.n, c.levels); !ok || fmt.Sprint(got) != c.want {
			t.Errorf("BandSizes(%d, %d): got %v, %v, want %s", c.n, c.levels, got, ok, c.want)
		}
	}
	for n := int64(1); n <= 128; n++ {
		for levels := int64(1); levels <= 6; levels++ {
			var want []int64
			for _, band := range toldBands(make([]int64, n), levels, toldHalves[int64]) {
				want = append(want, int64(len(band)))
			}
			got, ok := impl.BandSizes(n, levels)
			checkIntegers(t, fmt.Sprintf("BandSizes(%d, %d)", n, levels), got, ok, want)
		}
	}
	for _, c := range [][2]int64{{0, 1}, {-1, 1}, {129, 1}, {5, 0}, {5, -1}, {5, 7}, {1, 0}, {1, 7}, {math.MinInt64, 1}, {math.MaxInt64, 6}, {5, math.MaxInt64}, {5, math.MinInt64}} {
		if got, ok := impl.BandSizes(c[0], c[1]); ok || len(got) != 0 {
			t.Errorf("BandSizes(%d, %d): got %v, want a failure", c[0], c[1], got)
		}
	}
}

// indexList returns 0, 1, 2 and so on.
func indexList(n int64) []int64 {
	x := make([]int64, n)
	for i := range x {
		x[i] = int64(i)
	}
	return x
}

func TestPromise3PlacesOfBands(t *testing.T) {
	for n := int64(1); n <= 128; n++ {
		for levels := int64(1); levels <= 6; levels++ {
			// What is split without being changed tells where it was.
			bands := toldBands(indexList(n), levels, toldHalves[int64])
			for band, places := range bands {
				k := min(band+1, len(bands)-1)
				for i, want := range places {
					at, far, ok := impl.CoverOf(n, levels, int64(band), int64(i))
					if !ok || at != want || far != 1<<k {
						t.Fatalf("CoverOf(%d, %d, %d, %d): got %d, %d, %v, want %d, %d", n, levels, band, i, at, far, ok, want, 1<<k)
					}
				}
				checkNoCover(t, n, levels, int64(band), int64(len(places)))
				checkNoCover(t, n, levels, int64(band), -1)
			}
			checkNoCover(t, n, levels, int64(len(bands)), 0)
			checkNoCover(t, n, levels, -1, 0)
		}
	}
	for _, c := range [][4]int64{
		{0, 1, 0, 0}, {129, 1, 0, 0}, {-5, 1, 0, 0}, {8, 0, 0, 0}, {8, 7, 0, 0}, {8, -1, 0, 0}, {8, 2, math.MinInt64, 0}, {8, 2, math.MaxInt64, 0},
		{8, 2, 0, math.MinInt64}, {8, 2, 0, math.MaxInt64}, {math.MaxInt64, 1, 0, 0}, {8, math.MaxInt64, 0, 0},
	} {
		checkNoCover(t, c[0], c[1], c[2], c[3])
	}
}

func checkNoCover(t *testing.T, n, levels, band, i int64) {
	t.Helper()
	if at, far, ok := impl.CoverOf(n, levels, band, i); ok || at != 0 || far != 0 {
		t.Errorf("CoverOf(%d, %d, %d, %d): got %d, %d, want a failure", n, levels, band, i, at, far)
	}
}
