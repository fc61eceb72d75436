package tests

import (
	"fmt"
	"math"
	"math/rand/v2"
	"testing"

	"loop.example/g01317/impl"
)

func TestPromise4FramesByHand(t *testing.T) {
	minus := number(minusZeroBits)
	for _, c := range []struct {
		list   []float32
		levels int64
		want   [][]float32
	}{
		{[]float32{2, 2}, 1, [][]float32{{0, 0}, {2, 2}}},
		{[]float32{2, 2}, 0, [][]float32{{2, 2}}}, {numbersOf(minusZeroBits, 0), 0, [][]float32{numbersOf(minusZeroBits, 0)}},
		{[]float32{16}, 2, [][]float32{{0}, {0}, {16}}},
		{numbersOf(minusZeroBits), 1, [][]float32{{minus}, {0}}},                             // sums begin with +0
		{[]float32{16, 0}, 1, [][]float32{{8, -8}, {1 + 6 + 1, 4 + 4}}},                      // at 0, 1, 0, 1, 0, and 1, 0, 1, 0, 1
		{[]float32{16, 0}, 2, [][]float32{{8, -8}, {0, 0}, {8, 8}}},                          // the frame of 8, 8 behind
		{[]float32{0, 16, 32}, 1, [][]float32{{-12, 0, 12}, {2 + 4 + 4 + 2, 16, 20}}},        // at 2, 1, 0, 1, 2
		{[]float32{0, 0, 0, 0, 16}, 1, [][]float32{{0, 0, -1, -4, 10}, {0, 0, 1, 4, 6}}},     // mirrored, but 8 - 4 = 4 is away
		{[]float32{16, 0, 0, 0, 0}, 1, [][]float32{{10, -4, -1, 0, 0}, {6, 4, 1, 0, 0}}},     // the other way round
		{[]float32{0, 32, 0, 0, 0}, 1, [][]float32{{-16, 18, -8, -2, 0}, {16, 14, 8, 2, 0}}}, // -1 is 1
	} {
		rows, ok := impl.FrameOf(c.list, c.levels)
		checkToldBands(t, fmt.Sprint("FrameOf ", c.list, c.levels), rows, ok, c.want)
	}
}

// anyRows are rows with the same length.
func anyRows(r *rand.Rand, rows, long int, make func(*rand.Rand, int) []float32) [][]float32 {
	all := [][]float32{}
	for range rows {
		all = append(all, make(r, long))
	}
	return all
}

func TestPromise4FramesAsTold(t *testing.T) {
	r := rand.New(rand.NewPCG(21, 3))
	for n := 1; n <= 128; n++ {
		for levels := int64(0); levels <= 6; levels++ {
			for _, x := range [][]float32{middleNumbers(r, n), anyNumbers(r, n)} {
				want := toldFrame(x, levels)
				rows, ok := impl.FrameOf(x, levels)
				checkToldBands(t, fmt.Sprint("FrameOf ", x, levels), rows, ok, want)
			}
			for _, rows := range [][][]float32{anyRows(r, int(levels)+1, n, middleNumbers), anyRows(r, int(levels)+1, n, anyNumbers)} {
				x, ok := impl.FromFrame(rows)
				checkTold(t, fmt.Sprint("FromFrame of ", rows), x, ok, toldFromFrame(rows))
			}
		}
	}
}

func TestPromise4FramesAreUndoneNearly(t *testing.T) {
	r := rand.New(rand.NewPCG(22, 3))
	for n := 1; n <= 128; n++ {
		for levels := int64(0); levels <= 6; levels++ {
			x := lightNumbers(r, n)
			rows, ok := impl.FrameOf(x, levels)
			if !ok || int64(len(rows)) != levels+1 {
				t.Fatal("FrameOf ", x, levels, ": ", rows, ok)
			}
			back, ok := impl.FromFrame(rows)
			checkNear(t, "FromFrame of FrameOf", back, ok, x, 0.001)
		}
	}
}

func TestPromise4FramesOfEvenLists(t *testing.T) {
	for _, n := range []int{1, 2, 5, 127, 128} {
		rows, ok := impl.FrameOf(list(n, float32(-7.25)), 6)
		want := append(anyRows(nil, 6, n, func(_ *rand.Rand, n int) []float32 { return make([]float32, n) }), list(n, float32(-7.25)))
		checkToldBands(t, "FrameOf an even list", rows, ok, want)
	}
}

func TestPromise4FramesThatAreNotMade(t *testing.T) {
	check := func(x []float32, levels int64) {
		t.Helper()
		if rows, ok := impl.FrameOf(x, levels); ok || len(rows) != 0 {
			t.Error("FrameOf ", x, levels, ": ", rows, ok)
		}
	}
	for _, x := range wrongLists() {
		check(x, 0)
		check(x, 3)
	}
	for _, levels := range []int64{-1, 7, 64, math.MinInt64, math.MaxInt64} {
		check([]float32{1}, levels)
		check(list(128, float32(1)), levels)
	}
	most := number(0x7f7fffff)
	check([]float32{most, -most, -most}, 1) // only a row of differences is infinite
	rows, ok := impl.FrameOf([]float32{most, -most, -most}, 0)
	checkToldBands(t, "FrameOf great numbers without levels", rows, ok, [][]float32{{most, -most, -most}})
}

func TestPromise4SumsOfFrames(t *testing.T) {
	minus := number(minusZeroBits)
	for _, c := range []struct {
		rows [][]float32
		want []float32
	}{
		{[][]float32{{1, 2}, {3, 4}}, []float32{4, 6}}, {[][]float32{{minus}}, []float32{0}}, {[][]float32{{minus}, {minus}}, []float32{0}}, {[][]float32{{5}}, []float32{5}},
		{[][]float32{{0x1p24}, {1}, {1}}, []float32{0x1.000002p24}}, {[][]float32{{1}, {1}, {0x1p24}}, []float32{0x1p24}}, // from the last one on
		{zeroBands(list(7, 128)...), make([]float32, 128)},
	} {
		x, ok := impl.FromFrame(c.rows)
		checkNumbers(t, fmt.Sprint("FromFrame of ", c.rows), x, ok, c.want)
	}
	most := number(0x7f7fffff)
	for _, rows := range append(wrongRows(7), [][]float32{{most}, {most}}, [][]float32{{0, -most}, {0, most}, {0, most}}) {
		if x, ok := impl.FromFrame(rows); ok || len(x) != 0 {
			t.Error("FromFrame of ", rows, ": ", x, ok)
		}
	}
}

// wrongRows are rows that no function takes that takes at most most rows.
func wrongRows(most int) [][][]float32 {
	all := [][][]float32{
		nil, {}, {nil}, {{}}, {{}, {}}, zeroBands(129), zeroBands(129, 129), zeroBands(1, 2), zeroBands(2, 1), zeroBands(2, 2, 1), zeroBands(2, 0), zeroBands(0, 2), zeroBands(1, 1, 0),
		zeroBands(list(most+1, 1)...), zeroBands(list(most+1, 128)...), zeroBands(list(1000, 1)...),
	}
	for _, wrong := range wrongNumbers() {
		all = append(all, [][]float32{{wrong}}, [][]float32{{1, 2}, {3, wrong}}, [][]float32{{wrong, 2}, {3, 4}}, [][]float32{{1}, {wrong}, {2}})
	}
	return all
}
