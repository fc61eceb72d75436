package tests

import (
	"fmt"
	"math"
	"math/rand/v2"
	"slices"
	"testing"

	"loop.example/g01317/impl"
)

func liftKinds() []int64 { return []int64{impl.LiftMeans, impl.LiftLines, impl.LiftWide} }

func TestPromise3IntegersLiftedByHand(t *testing.T) {
	if impl.LiftMeans != 0 || impl.LiftLines != 1 || impl.LiftWide != 2 || impl.MaxList != 128 || impl.MaxLevels != 6 {
		t.Error("constants of chapter 2 are not as they are told")
	}
	for _, c := range []struct {
		kind            int64
		list, low, high []int64
	}{
		{impl.LiftLines, []int64{1, 3, 2}, []int64{2, 3}, []int64{2}},
		{impl.LiftMeans, []int64{1, 4, 7}, []int64{2, 7}, []int64{3}},
		{impl.LiftWide, []int64{0, 1, 2, 3}, []int64{0, 3}, []int64{0, 2}},
		{impl.LiftMeans, []int64{7}, []int64{7}, nil}, {impl.LiftLines, []int64{-7}, []int64{-7}, nil}, {impl.LiftWide, []int64{1000000}, []int64{1000000}, nil},
		{impl.LiftMeans, []int64{4, 1}, []int64{2}, []int64{-3}}, // -3 / 2 is -2, rounded down
		{impl.LiftMeans, []int64{1, 0, 0, -1}, []int64{0, -1}, []int64{-1, -1}},
		{impl.LiftLines, []int64{4, 1}, []int64{3}, []int64{-3}}, // (-3 - 3 + 2) / 4
		{impl.LiftLines, []int64{0, 0, -1}, []int64{1, 0}, []int64{1}},
		{impl.LiftLines, []int64{0, -5, 0, 0}, []int64{-2, -1}, []int64{-5, 0}},
		{impl.LiftWide, []int64{4, 1}, []int64{3}, []int64{-3}},
		{impl.LiftWide, []int64{16, 0, 0}, []int64{12, -4}, []int64{-8}},          // evens 16, 0 and, mirrored, 0, 16: (144 - 16 + 8) / 16
		{impl.LiftWide, []int64{-1, 0, 0, 0, 0}, []int64{0, 0, 0}, []int64{1, 0}}, // -9 + 8 and 1 + 8, divided by 16
		{impl.LiftLines, []int64{5, 5, 5, 5, 5}, []int64{5, 5, 5}, []int64{0, 0}},
		{impl.LiftLines, []int64{1000000, 1000000, -1000000, -1000000}, []int64{1500000, -750000}, []int64{1000000, 0}},
	} {
		low, high, ok := impl.LiftIntegers(c.kind, c.list)
		checkIntegers(t, fmt.Sprint("evens of LiftIntegers, kind ", c.kind, ", of ", c.list), low, ok, c.low)
		checkIntegers(t, fmt.Sprint("odds of LiftIntegers, kind ", c.kind, ", of ", c.list), high, ok, c.high)
		back, ok := impl.DropIntegers(c.kind, c.low, c.high)
		checkIntegers(t, fmt.Sprint("DropIntegers, kind ", c.kind, ", of ", c.low, c.high), back, ok, c.list)
	}
}

func TestPromise3IntegersAreUndone(t *testing.T) {
	r := rand.New(rand.NewPCG(3, 2))
	for count := 1; count <= 128; count++ {
		for _, kind := range liftKinds() {
			for _, most := range []int64{1, 5, 1000, 1000000} {
				x := integersUpTo(r, count, most)
				wantLow, wantHigh := toldLift(kind, x)
				low, high, ok := impl.LiftIntegers(kind, x)
				checkIntegers(t, fmt.Sprint("evens of LiftIntegers, kind ", kind, ", of ", x), low, ok, wantLow)
				checkIntegers(t, fmt.Sprint("odds of LiftIntegers, kind ", kind, ", of ", x), high, ok, wantHigh)
				back, ok := impl.DropIntegers(kind, low, high)
				checkIntegers(t, fmt.Sprint("DropIntegers of LiftIntegers, kind ", kind), back, ok, x)
			}
		}
	}
}

func TestPromise3EqualIntegersHaveNoRipples(t *testing.T) {
	for _, n := range []int64{0, 1, -1, 7, 1000000, -1000000} {
		for _, kind := range liftKinds() {
			low, high, ok := impl.LiftIntegers(kind, list(9, n))
			checkIntegers(t, "evens of equal integers", low, ok, list(5, n))
			checkIntegers(t, "odds of equal integers", high, ok, list(4, int64(0)))
		}
	}
}

func TestPromise3IntegersThatAreNotLifted(t *testing.T) {
	for _, kind := range []int64{-1, 3, math.MinInt64, math.MaxInt64} {
		for _, x := range [][]int64{{1}, {1, 2}} {
			if low, high, ok := impl.LiftIntegers(kind, x); ok || len(low)+len(high) != 0 {
				t.Error("LiftIntegers of the kind ", kind, ": ", low, high, ok)
			}
			if back, ok := impl.DropIntegers(kind, x, x); ok || len(back) != 0 {
				t.Error("DropIntegers of the kind ", kind, ": ", back, ok)
			}
			if bands, ok := impl.LiftLevels(kind, x, 1); ok || len(bands) != 0 {
				t.Error("LiftLevels of the kind ", kind, ": ", bands, ok)
			}
			if back, ok := impl.DropLevels(kind, [][]int64{{1}}); ok || len(back) != 0 {
				t.Error("DropLevels of the kind ", kind, ": ", back, ok)
			}
		}
	}
	for _, kind := range liftKinds() {
		for _, x := range wrongIntegers() {
			if low, high, ok := impl.LiftIntegers(kind, x); ok || len(low)+len(high) != 0 {
				t.Error("LiftIntegers of what are no integers: ", x, low, high)
			}
			if bands, ok := impl.LiftLevels(kind, x, 2); ok || len(bands) != 0 {
				t.Error("LiftLevels of what are no integers: ", x, bands)
			}
		}
	}
}

func TestPromise3HalvesThatAreNotDropped(t *testing.T) {
	for _, c := range [][2][]int64{
		{nil, nil}, {{}, {1}}, {{1}, {1, 2}}, {{1, 2, 3}, {1}}, {{1, 2}, nil}, {{1, 2}, {1, 2, 3}},
		{list(65, int64(0)), list(64, int64(0))}, {list(65, int64(0)), list(65, int64(0))}, {list(64, int64(0)), list(65, int64(0))}, {list(64, int64(0)), list(62, int64(0))},
		{{10000001}, {0}}, {{0}, {10000001}}, {{-10000001}, {0}}, {{0}, {-10000001}}, {{10000000}, {0}}, {{math.MaxInt64}, {math.MaxInt64}}, {{0}, {math.MinInt64}},
		{{math.MinInt64, 1}, {1}}, {{10000000}, nil}, {{1000001}, nil}, {{-1000001}, nil}, {{0}, {2000004}}, {{0}, {-2000004}},
	} {
		for _, kind := range liftKinds() {
			if back, ok := impl.DropIntegers(kind, c[0], c[1]); ok || len(back) != 0 {
				t.Error("DropIntegers of the kind ", kind, " of ", c, ": ", back, ok)
			}
		}
	}
	// The integers that these come from are as great as can be, and the next ones are no integers.
	back, ok := impl.DropIntegers(impl.LiftMeans, []int64{0}, []int64{2000000})
	checkIntegers(t, "DropIntegers of far halves", back, ok, []int64{-1000000, 1000000})
	if back, ok := impl.DropIntegers(impl.LiftMeans, []int64{0}, []int64{2000001}); ok || len(back) != 0 {
		t.Error("DropIntegers of halves that are too far: ", back, ok)
	}
	for _, kind := range liftKinds() {
		back, ok := impl.DropIntegers(kind, list(64, int64(-1000000)), list(64, int64(0)))
		checkIntegers(t, "DropIntegers of the longest halves", back, ok, list(128, int64(-1000000)))
	}
}

// sameBands reports whether bands of integers are equal; no band is an empty one.
func sameBands(a, b [][]int64) bool { return slices.EqualFunc(a, b, slices.Equal) }

func TestPromise3LevelsOfIntegers(t *testing.T) {
	r := rand.New(rand.NewPCG(4, 2))
	for count := 1; count <= 128; count++ {
		for levels := int64(1); levels <= 6; levels++ {
			for _, kind := range liftKinds() {
				x := integersUpTo(r, count, 300000)
				want := toldBands(x, levels, func(x []int64) ([]int64, []int64) { return toldLift(kind, x) })
				bands, ok := impl.LiftLevels(kind, x, levels)
				if !ok || !sameBands(bands, want) {
					t.Fatal("LiftLevels, kind ", kind, ", of ", x, " with levels ", levels, ": got ", bands, ok, ", want ", want)
				}
				back, ok := impl.DropLevels(kind, bands)
				checkIntegers(t, "DropLevels of LiftLevels", back, ok, x)
			}
		}
	}
}

func TestPromise3LevelsOfIntegersByHand(t *testing.T) {
	for _, c := range []struct {
		kind   int64
		list   []int64
		levels int64
		want   string
	}{
		{impl.LiftMeans, []int64{1, 3, 5, 7}, 6, "[[2 2] [4] [4]]"}, {impl.LiftMeans, []int64{1, 3, 5, 7}, 1, "[[2 2] [2 6]]"},
		{impl.LiftLines, []int64{9}, 1, "[[9]]"}, {impl.LiftWide, []int64{9}, 6, "[[9]]"}, {impl.LiftLines, []int64{1, 3}, 6, "[[2] [2]]"},
		{impl.LiftLines, []int64{1, 3, 2}, 1, "[[2] [2 3]]"}, {impl.LiftLines, []int64{1, 3, 2}, 2, "[[2] [1] [3]]"}, {impl.LiftLines, []int64{1, 3, 2}, 6, "[[2] [1] [3]]"},
	} {
		bands, ok := impl.LiftLevels(c.kind, c.list, c.levels)
		if !ok || fmt.Sprint(bands) != c.want {
			t.Error("LiftLevels of ", c.list, " with levels ", c.levels, ": ", bands, ok, ", want ", c.want)
		}
		back, ok := impl.DropLevels(c.kind, bands)
		checkIntegers(t, "DropLevels of "+c.want, back, ok, c.list)
	}
	for _, levels := range []int64{0, -1, 7, math.MinInt64, math.MaxInt64} {
		for _, x := range [][]int64{{1}, {1, 2, 3}} {
			if bands, ok := impl.LiftLevels(impl.LiftMeans, x, levels); ok || len(bands) != 0 {
				t.Error("LiftLevels with levels ", levels, ": ", bands, ok)
			}
		}
	}
}

// Evens that are no integers any more are lifted on, but their bands are not led
// back, because DropIntegers fails there.
func TestPromise3LevelsOfTheGreatestIntegers(t *testing.T) {
	const most = 1000000
	x := []int64{most, most, -most, -most, most, most, -most, -most}
	bands, ok := impl.LiftLevels(impl.LiftLines, x, 1)
	if !ok || bands[1][0] != 1500000 {
		t.Error("LiftLevels with one level: ", bands, ok)
	}
	back, ok := impl.DropLevels(impl.LiftLines, bands)
	checkIntegers(t, "DropLevels of great evens that have not been lifted", back, ok, x)
	want := toldBands(x, 3, func(x []int64) ([]int64, []int64) { return toldLift(impl.LiftLines, x) })
	if bands, ok = impl.LiftLevels(impl.LiftLines, x, 3); !ok || !sameBands(bands, want) {
		t.Error("LiftLevels with three levels: ", bands, ok, ", want ", want)
	}
	if back, ok = impl.DropLevels(impl.LiftLines, bands); ok || len(back) != 0 {
		t.Error("DropLevels of great evens that have been lifted: ", back, ok)
	}
}

func TestPromise3LevelsThatAreNotDropped(t *testing.T) {
	zeros := func(n int) []int64 { return make([]int64, n) }
	for _, bands := range [][][]int64{
		nil, {}, {{}}, {nil}, {{1, 2}}, {{}, {1}}, {{1}, {}}, {{1}, nil}, {{1, 2}, {1}}, {{1}, {1, 2, 3}}, {{1}, {}, {1}}, {{}, {1}, {1}}, {{1}, {1}, {1, 2}}, {{1, 2}, {1}, {1, 1, 1}},
		{{1}, {1}, {1}, {1}}, {zeros(64), zeros(65)}, {zeros(65), zeros(65)}, {zeros(65), zeros(64)}, {zeros(128)}, list(7, []int64{1}), list(8, []int64{1}), list(3000, []int64{1}),
		{zeros(64), zeros(32), zeros(16), zeros(8), zeros(4), zeros(2), zeros(1), zeros(1)},
		{{1000001}}, {{-1000001}}, {{math.MinInt64}}, {{10000001}, {0}}, {{0}, {10000001}}, {{0}, {0}, {-10000001}}, {{math.MaxInt64}, {math.MaxInt64}}, {{2000004}, {0}},
		{{0}, {2000004}, {0}}, {{0, 0}, {2000004}, {0}},
	} {
		for _, kind := range liftKinds() {
			if back, ok := impl.DropLevels(kind, bands); ok || len(back) != 0 {
				t.Error("DropLevels of the kind ", kind, " of ", bands, ": ", back, ok)
			}
		}
	}
	back, ok := impl.DropLevels(impl.LiftWide, [][]int64{{-1000000}})
	checkIntegers(t, "DropLevels of a band alone", back, ok, []int64{-1000000})
	longest := [][]int64{zeros(64), zeros(32), zeros(16), zeros(8), zeros(4), zeros(2), {3, 3}}
	back, ok = impl.DropLevels(impl.LiftLines, longest)
	checkIntegers(t, "DropLevels of the longest bands", back, ok, list(128, int64(3)))
}
