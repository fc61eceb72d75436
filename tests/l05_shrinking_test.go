package tests

import (
	"fmt"
	"math"
	"math/rand/v2"
	"testing"

	"loop.example/g01317/impl"
)

// wrongLimits are those that are less than 0, or not finite.
func wrongLimits() []float32 {
	return append(wrongNumbers(), -1, number(0x80000001), number(0xff7fffff))
}

// checkToldNumber checks a number that a function has to return if it is finite.
func checkToldNumber(t *testing.T, what string, got float32, ok bool, want float32) {
	t.Helper()
	if finite([]float32{want}) {
		checkFound(t, what, got, ok, bitsOf(want), true)
	} else {
		checkFound(t, what, got, ok, 0, false)
	}
}

// roughLists are lists with the length n of numbers of all kinds: some are many
// times there, and some are too great for squares.
func roughLists(r *rand.Rand, n int) [][]float32 {
	return [][]float32{smallNumbers(r, n), lightNumbers(r, n), middleNumbers(r, n), anyNumbers(r, n), list(n, lightNumbers(r, 1)[0])}
}

func TestPromise6Medians(t *testing.T) {
	minus, most := number(minusZeroBits), number(0x7f7fffff)
	for _, c := range []struct {
		list []float32
		want float32
	}{
		{[]float32{3, 1, 2, 9}, 2}, {[]float32{3, 1, 2}, 2}, {[]float32{5}, 5}, {[]float32{5, 4}, 4}, {[]float32{4, 5}, 4}, {[]float32{-1, -2, -3, -4}, -3}, {[]float32{7, 7, 7}, 7},
		{[]float32{minus}, minus}, {[]float32{0, minus}, 0}, {[]float32{minus, 0}, minus}, {[]float32{0, minus, 0}, minus}, {[]float32{minus, 0, minus}, 0}, {[]float32{1, minus, -1, 0}, minus}, {[]float32{1, 0, -1, minus}, 0},
		{[]float32{2, 0, minus, -2, 0}, minus}, {[]float32{most, -most, most}, most}, {[]float32{most, -most}, -most}, {numbersOf(2, 0x80000001, 1), number(1)}, {list(128, minus), minus}, {append(list(64, float32(3)), list(64, float32(2))...), 2}, {append(list(63, float32(2)), list(65, float32(3))...), 3},
	} {
		got, ok := impl.MedianOf(c.list)
		checkFound(t, fmt.Sprint("MedianOf ", c.list), got, ok, bitsOf(c.want), true)
	}
	r := rand.New(rand.NewPCG(1, 5))
	for n := 1; n <= 128; n++ {
		for _, x := range roughLists(r, n) {
			got, ok := impl.MedianOf(x)
			checkToldNumber(t, fmt.Sprint("MedianOf ", x), got, ok, toldMedian(x))
			got, ok = impl.SpreadOf(x)
			checkToldNumber(t, fmt.Sprint("SpreadOf ", x), got, ok, toldSpread(x))
		}
	}
	for _, x := range wrongLists() {
		got, ok := impl.MedianOf(x)
		checkFound(t, fmt.Sprint("MedianOf ", x), got, ok, 0, false)
		got, ok = impl.SpreadOf(x)
		checkFound(t, fmt.Sprint("SpreadOf ", x), got, ok, 0, false)
	}
}

func TestPromise6Spreads(t *testing.T) {
	minus, most := number(minusZeroBits), number(0x7f7fffff)
	for _, c := range []struct {
		list []float32
		want uint32
	}{
		{[]float32{1, 1, 1}, 0}, {[]float32{5}, 0}, {[]float32{minus}, 0}, {[]float32{0, minus}, 0}, {list(128, float32(0.1)), 0}, {[]float32{1, 2, 3}, 0x3fbdc5d6}, {[]float32{3, 1, -1}, 0x403dc5d6},
		{[]float32{0, 5}, 0}, {[]float32{0, 0, 1, 5}, 0}, {[]float32{4, 0, 1, 5}, 0x3fbdc5d6}, {[]float32{most, 0, 0}, 0}, {[]float32{1, 2, most}, 0x3fbdc5d6},
	} {
		got, ok := impl.SpreadOf(c.list)
		checkFound(t, fmt.Sprint("SpreadOf ", c.list), got, ok, c.want, true)
	}
	// The first list has a difference that is infinite, the second one a spread.
	for _, x := range [][]float32{{-most, -most, most}, {most, -most, 0}} {
		got, ok := impl.SpreadOf(x)
		checkFound(t, fmt.Sprint("SpreadOf ", x), got, ok, 0, false)
	}
}

func TestPromise6Noises(t *testing.T) {
	minus, most := number(minusZeroBits), number(0x7f7fffff)
	for _, c := range []struct {
		b    impl.Bands
		want uint32
	}{
		{impl.Bands{Coarse: []float32{5}, Details: [][]float32{{3, -1}, {2}}}, 0x3fbdc52c}, // 1 divided by 0.6745
		{impl.Bands{Coarse: []float32{5}, Details: [][]float32{{minus}}}, 0}, {bandsOf(2, 64, 32, 16, 8, 4, 2), 0}, {bandsOf(64, 64), 0},
		{impl.Bands{Coarse: []float32{-most}, Details: [][]float32{{-2}}}, 0x403dc52c}, {impl.Bands{Coarse: []float32{1, 1}, Details: [][]float32{{-1, most, 1, -most}, {9, 9}}}, 0x3fbdc52c},
	} {
		got, ok := impl.NoiseOf(c.b)
		checkFound(t, fmt.Sprint("NoiseOf ", c.b), got, ok, c.want, true)
	}
	for _, b := range goodBands(rand.New(rand.NewPCG(2, 5))) {
		got, ok := impl.NoiseOf(b)
		checkToldNumber(t, fmt.Sprint("NoiseOf ", b), got, ok, toldNoise(b))
	}
	for _, b := range append(falseBands(), impl.Bands{Coarse: []float32{1}, Details: [][]float32{{most}}}) {
		got, ok := impl.NoiseOf(b)
		checkFound(t, fmt.Sprint("NoiseOf ", b), got, ok, 0, false)
	}
}

func TestPromise6ShrunkNumbers(t *testing.T) {
	minus, most := number(minusZeroBits), number(0x7f7fffff)
	for _, c := range []struct{ x, limit, soft, hard float32 }{
		{-3, 1, -2, -3}, {3, 1, 2, 3}, {1, 1, 0, 0}, {-1, 1, 0, 0}, {0.5, 1, 0, 0}, {-0.5, 1, 0, 0}, {number(0x3f800001), 1, 0x1p-23, number(0x3f800001)}, {number(0xbf800001), 1, -0x1p-23, number(0xbf800001)},
		{0, 0, 0, 0}, {minus, 0, 0, 0}, {minus, minus, 0, 0}, {0, minus, 0, 0}, {minus, 1, 0, 0}, {-7, 0, -7, -7}, {7, minus, 7, 7}, {-7, minus, -7, -7}, {number(1), 0, number(1), number(1)}, {number(0x80000001), 0, number(0x80000001), number(0x80000001)},
		{number(2), number(1), number(1), number(2)}, {number(1), number(1), 0, 0}, {most, most, 0, 0}, {-most, most, 0, 0}, {most, 1, most, most}, {most, number(0x7f7ffffe), 0x1p104, most}, {-0x1.000002p24, 0.5, -0x1.000002p24, -0x1.000002p24}, {0, most, 0, 0},
	} {
		what := fmt.Sprint("Shrink of ", c.x, " with limit ", c.limit)
		soft, ok := impl.SoftShrink(c.x, c.limit)
		checkFound(t, "Soft"+what, soft, ok, bitsOf(c.soft), true)
		hard, ok := impl.HardShrink(c.x, c.limit)
		checkFound(t, "Hard"+what, hard, ok, bitsOf(c.hard), true)
	}
	check := func(x, limit float32) {
		t.Helper()
		soft, ok := impl.SoftShrink(x, limit)
		checkFound(t, fmt.Sprint("SoftShrink of ", x, " with limit ", limit), soft, ok, 0, false)
		hard, ok := impl.HardShrink(x, limit)
		checkFound(t, fmt.Sprint("HardShrink of ", x, " with limit ", limit), hard, ok, 0, false)
	}
	for _, limit := range wrongLimits() {
		for _, x := range []float32{0, 1, -2, most} {
			check(x, limit)
		}
	}
	for _, wrong := range wrongNumbers() {
		check(wrong, 1)
		check(wrong, 0)
	}
}

func TestPromise6ShrunkListsAsTold(t *testing.T) {
	minus := number(minusZeroBits)
	small, ok := impl.ShrinkList([]float32{3, -0.5, -2, minus, 1, -1}, 1, false)
	checkNumbers(t, "ShrinkList, soft", small, ok, []float32{2, 0, -1, 0, 0, 0})
	small, ok = impl.ShrinkList([]float32{3, -0.5, -2, minus, 1, -1}, 1, true)
	checkNumbers(t, "ShrinkList, hard", small, ok, []float32{3, 0, -2, 0, 0, 0})
	small, ok = impl.ShrinkList([]float32{minus, 0, -4}, 0, true)
	checkNumbers(t, "ShrinkList, hard, by nothing", small, ok, []float32{0, 0, -4})
	r := rand.New(rand.NewPCG(3, 5))
	for n := 1; n <= 128; n++ {
		for _, x := range roughLists(r, n) {
			for _, limit := range []float32{0, minus, size32(x[r.IntN(n)]), float32(100 * r.Float64()), number(0x7f7fffff)} {
				for _, hard := range []bool{false, true} {
					what := fmt.Sprint("ShrinkList of ", x, " with limit ", limit, hard)
					small, ok := impl.ShrinkList(x, limit, hard)
					checkNumbers(t, what, small, ok, toldShrinkList(x, limit, hard))
					checkNearer(t, what, small, x)
				}
			}
		}
	}
	for _, hard := range []bool{false, true} {
		for _, x := range wrongLists() {
			small, ok := impl.ShrinkList(x, 1, hard)
			checkTold(t, fmt.Sprint("ShrinkList of ", x), small, ok, wrongNumbers())
		}
		for _, limit := range wrongLimits() {
			small, ok := impl.ShrinkList([]float32{1, 2}, limit, hard)
			checkTold(t, fmt.Sprint("ShrinkList with limit ", limit), small, ok, wrongNumbers())
		}
	}
}

// checkNearer checks that no number lies farther from 0 than it did, or on the other side.
func checkNearer(t *testing.T, what string, small, list []float32) {
	t.Helper()
	for i, x := range small {
		if size32(x) > size32(list[i]) || x*list[i] < 0 {
			t.Errorf("%s: %v at %d does not come nearer to nothing: %v", what, list[i], i, x)
		}
	}
}

func TestPromise6ShrunkBands(t *testing.T) {
	minus, most := number(minusZeroBits), number(0x7f7fffff)
	b := impl.Bands{Coarse: []float32{5}, Details: [][]float32{{3, -1}, {2}}}
	for _, c := range []struct {
		limits []float32
		hard   bool
		want   [][]float32
	}{
		{[]float32{2, 2}, true, [][]float32{{3, 0}, {0}}}, {[]float32{2, 1}, true, [][]float32{{3, 0}, {2}}}, {[]float32{0, 1}, false, [][]float32{{3, -1}, {1}}}, {[]float32{1, 0}, false, [][]float32{{2, 0}, {2}}}, {[]float32{minus, most}, false, [][]float32{{3, -1}, {0}}},
	} {
		small, ok := impl.ShrinkBands(b, c.limits, c.hard)
		checkBands(t, fmt.Sprint("ShrinkBands with ", c.limits), small, ok, impl.Bands{Coarse: []float32{5}, Details: c.want})
	}
	r := rand.New(rand.NewPCG(4, 5))
	for _, b := range goodBands(r) {
		limits := []float32{}
		for _, details := range b.Details {
			limits = append(limits, size32(details[r.IntN(len(details))]))
		}
		for _, hard := range []bool{false, true} {
			small, ok := impl.ShrinkBands(b, limits, hard)
			checkBands(t, fmt.Sprint("ShrinkBands of ", b, limits, hard), small, ok, toldShrinkBands(b, limits, hard))
			checkQuieter(t, small, b)
		}
		small, ok := impl.ShrinkBands(b, make([]float32, len(limits)), false)
		if !ok || seen(small.Coarse) != seen(b.Coarse) || len(small.Details) != len(b.Details) {
			t.Error("ShrinkBands by nothing: ", small, ok)
		}
	}
}

// checkQuieter checks that no band has more energy than it had.
func checkQuieter(t *testing.T, small, b impl.Bands) {
	t.Helper()
	before, ok := impl.PowersOfBands(b)
	if !ok {
		return
	}
	powers, ok := impl.PowersOfBands(small)
	for level, power := range powers {
		if !ok || power > before[level] {
			t.Error("bands that were shrunk have more energy: ", powers, before)
		}
	}
}

func TestPromise6BandsThatAreNotShrunk(t *testing.T) {
	check := func(b impl.Bands, limits []float32) {
		t.Helper()
		for _, hard := range []bool{false, true} {
			small, ok := impl.ShrinkBands(b, limits, hard)
			checkNoBands(t, fmt.Sprint("ShrinkBands of ", b, limits), small, ok)
		}
	}
	for _, b := range falseBands() {
		check(b, make([]float32, len(b.Details)))
		check(b, []float32{1})
	}
	b := bandsOf(1, 4, 2, 1)
	for _, limits := range [][]float32{nil, {}, {1}, {1, 1}, {1, 1, 1, 1}, list(1000, float32(1))} {
		check(b, limits)
	}
	for _, wrong := range wrongLimits() {
		check(b, []float32{wrong, 1, 1})
		check(b, []float32{1, wrong, 1})
		check(b, []float32{1, 1, wrong})
		check(bandsOf(1, 1), []float32{wrong})
	}
}

func TestPromise6PlainLimits(t *testing.T) {
	minus, most := number(minusZeroBits), number(0x7f7fffff)
	for _, c := range []struct {
		noise float32
		count int64
		want  uint32
	}{
		{3, 1, 0}, {0, 128, 0}, {minus, 128, minusZeroBits}, {minus, 1, minusZeroBits}, {most, 1, 0}, {1, 2, 0x3f96b55f}, {1, 128, 0x40475e5b}, {2, 128, 0x40c75e5b}, {number(1), 128, 3}, {0, 1, 0},
	} {
		limit, ok := impl.PlainLimit(c.noise, c.count)
		checkFound(t, fmt.Sprint("PlainLimit of ", c.noise, c.count), limit, ok, c.want, true)
	}
	r := rand.New(rand.NewPCG(5, 5))
	for count := int64(1); count <= 128; count++ {
		for _, noise := range []float32{1, most, finitePositive(r), finitePositive(r), size32(middleNumber(r))} {
			limit, ok := impl.PlainLimit(noise, count)
			checkToldNumber(t, fmt.Sprint("PlainLimit of ", noise, count), limit, ok, toldPlainLimit(noise, count))
		}
	}
	for _, count := range []int64{0, -1, 129, 256, 1 << 32, math.MinInt64, math.MaxInt64} {
		limit, ok := impl.PlainLimit(1, count)
		checkFound(t, fmt.Sprint("PlainLimit with count ", count), limit, ok, 0, false)
	}
	for _, noise := range append(wrongLimits(), most) {
		limit, ok := impl.PlainLimit(noise, 128)
		checkFound(t, fmt.Sprint("PlainLimit of ", noise), limit, ok, 0, false)
	}
}

func TestPromise6Risks(t *testing.T) {
	minus, most := number(minusZeroBits), number(0x7f7fffff)
	for _, c := range []struct {
		list         []float32
		noise, limit float32
		want         float32
	}{
		{[]float32{3, 1}, 1, 2, 5}, {[]float32{3, 1}, 1, 0, 2}, {[]float32{3, 1}, 1, minus, 2}, {[]float32{3, 1}, 1, 1, 2}, {[]float32{3, 1}, 1, 3, 8}, {[]float32{-3, -1}, 2, 3, 2}, {[]float32{5}, 2, 5, 21}, {[]float32{5}, 2, number(0x409fffff), 0x1.cffffcp+4}, {[]float32{minus}, 1, 0, -1}, {[]float32{0, minus, 0}, 2, 0, -12},
		{[]float32{1, 2, 3, 4}, 1, 2, 13}, {list(128, float32(1)), 3, 1, -1024}, {list(128, float32(2)), 3, 1, 1280}, {[]float32{most}, 1, 1, 2}, {[]float32{1}, 1, most, 0}, {[]float32{1}, 0x1p-75, 1, 1}, {[]float32{1, -1}, 0x1p-80, 1, 2}, {[]float32{most, most}, number(1), 0x1p63, 0x1p127},
	} {
		risk, ok := impl.RiskOf(c.list, c.noise, c.limit)
		checkFound(t, fmt.Sprint("RiskOf ", c.list, c.noise, c.limit), risk, ok, bitsOf(c.want), true)
	}
	check := func(list []float32, noise, limit float32) {
		t.Helper()
		risk, ok := impl.RiskOf(list, noise, limit)
		checkFound(t, fmt.Sprint("RiskOf ", list, noise, limit), risk, ok, 0, false)
	}
	for _, noise := range append(wrongLimits(), 0, minus, 0x1p64, most) { // the last two have infinite squares
		check([]float32{1, 2}, noise, 1)
		check([]float32{1, 2}, noise, 0)
		limit, least, ok := impl.BestLimit([]float32{1, 2}, noise)
		checkFound(t, fmt.Sprint("BestLimit with noise ", noise), limit, ok, 0, false)
		checkNumber(t, fmt.Sprint("the risk with noise ", noise), least, 0)
	}
	for _, limit := range wrongLimits() {
		check([]float32{1, 2}, 1, limit)
	}
	for _, x := range wrongLists() {
		check(x, 1, 1)
		limit, least, ok := impl.BestLimit(x, 1)
		checkFound(t, fmt.Sprint("BestLimit of ", x), limit, ok, 0, false)
		checkNumber(t, fmt.Sprint("the risk of ", x), least, 0)
	}
	check([]float32{most}, 1, most)
	check([]float32{1, most}, 1, 0x1p64)
	check([]float32{0x1p63, 0x1p63, 0x1p63, 0x1p63}, 1, 0x1p63)
}

func TestPromise6BestLimits(t *testing.T) {
	minus, most := number(minusZeroBits), number(0x7f7fffff)
	for _, c := range []struct {
		list               []float32
		noise, limit, risk float32
	}{
		{[]float32{3, 1}, 1, 0, 2}, {[]float32{5}, 1, 0, 1}, {[]float32{1, 1}, 1, 1, 0}, {[]float32{0, 0}, 1, 0, -2}, {[]float32{minus}, 3, 0, -9}, {[]float32{1}, 1, 1, 0}, {[]float32{-0.5}, 1, 0.5, -0.75}, {[]float32{-0.5, 9}, 1, 0.5, 0.5},
		{[]float32{-1, 0.5, 1, -0.5}, 1, 1, -1.5}, {[]float32{2, -2}, 8, 2, -120}, {list(128, float32(-0.5)), 1, 0.5, -96}, {[]float32{1, -1, 2, 2}, 1, 0, 4},
		{[]float32{3, -1}, 2, 3, 2}, {[]float32{-1, 3}, 2, 1, 2}, {[]float32{1, 3, 1}, 2, 1, -1}, // 3 and 1 are equally good in the first two of these
	} {
		limit, risk, ok := impl.BestLimit(c.list, c.noise)
		checkFound(t, fmt.Sprint("BestLimit of ", c.list, c.noise), limit, ok, bitsOf(c.limit), true)
		checkNumber(t, fmt.Sprint("the risk of ", c.list, c.noise), risk, bitsOf(c.risk))
	}
	r := rand.New(rand.NewPCG(6, 5))
	for n := 1; n <= 128; n++ {
		for _, x := range roughLists(r, n) {
			for _, noise := range []float32{1, 0.5, float32(50*r.Float64() + 0.001), finitePositive(r), 1e-30} {
				for _, limit := range []float32{0, size32(x[r.IntN(n)]), float32(100 * r.Float64())} {
					risk, ok := impl.RiskOf(x, noise, limit)
					checkToldNumber(t, fmt.Sprint("RiskOf ", x, noise, limit), risk, ok, toldRisk(x, noise, limit))
				}
				limit, risk, ok := impl.BestLimit(x, noise)
				wantLimit, wantRisk := toldBestLimit(x, noise)
				checkToldNumber(t, fmt.Sprint("the risk of ", x, noise), risk, ok, wantRisk)
				checkNumber(t, fmt.Sprint("BestLimit of ", x, noise), limit, bitsOf(wantLimit))
			}
		}
	}
	// A limit is not told where a risk is infinite, even if others are less.
	for _, x := range [][]float32{{most}, {1, most}, {0.1, 1, 0x1p64}} {
		limit, risk, ok := impl.BestLimit(x, 1)
		checkFound(t, fmt.Sprint("BestLimit of ", x), limit, ok, 0, false)
		checkNumber(t, fmt.Sprint("the risk of ", x), risk, 0)
	}
}

func TestPromise6Blocks(t *testing.T) {
	minus, most := number(minusZeroBits), number(0x7f7fffff)
	for _, c := range []struct {
		list  []float32
		block int64
		limit float32
		want  []float32
	}{
		{[]float32{1, 1, 2}, 2, 1, []float32{0, 0, 1.5}}, {[]float32{1, 1, 2}, 1, 1, []float32{0, 0, 1.5}}, {[]float32{1, -1, 2}, 3, 1, []float32{0.5, -0.5, 1}}, {[]float32{1, -1, 2}, 128, 1, []float32{0.5, -0.5, 1}}, {[]float32{-1, -1, -1}, 2, 1, []float32{0, 0, 0}},
		{[]float32{-4}, 1, 2, []float32{-3}}, {[]float32{-4}, 128, 4, []float32{0}}, {[]float32{-4}, 5, 5, []float32{0}}, {[]float32{-4, 3, minus}, 2, 0, []float32{-4, 3, 0}}, {[]float32{-4, 3, minus}, 3, minus, []float32{-4, 3, minus}}, {[]float32{minus, 4}, 2, 2, []float32{minus, 2}}, {[]float32{minus, 0}, 1, 0, []float32{0, 0}},
		{[]float32{1e-30, -1e-30}, 2, 0, []float32{0, 0}}, {[]float32{most, -1}, 2, 1, []float32{most, -1}}, {[]float32{most, -1}, 1, most, []float32{0, 0}}, {[]float32{-1, -most}, 2, 0, []float32{-1, -most}}, {list(128, float32(2)), 128, 1, list(128, float32(1.5))}, {list(128, float32(-2)), 128, 2, make([]float32, 128)},
		{append(list(127, float32(1)), -2), 127, 1, append(make([]float32, 127), -1.5)},
	} {
		left, ok := impl.BlockShrink(c.list, c.block, c.limit)
		checkNumbers(t, fmt.Sprint("BlockShrink of ", c.list, c.block, c.limit), left, ok, c.want)
	}
	r := rand.New(rand.NewPCG(7, 5))
	for n := 1; n <= 128; n++ {
		for _, x := range roughLists(r, n) {
			for _, block := range []int64{1, 2, 3, int64(n), 128, 1 + r.Int64N(128)} {
				for _, limit := range []float32{0, minus, size32(x[r.IntN(n)]), float32(100 * r.Float64())} {
					what := fmt.Sprint("BlockShrink of ", x, block, limit)
					left, ok := impl.BlockShrink(x, block, limit)
					checkNumbers(t, what, left, ok, toldBlocks(x, block, limit))
					checkNearer(t, what, left, x)
				}
			}
		}
	}
	for _, x := range wrongLists() {
		left, ok := impl.BlockShrink(x, 2, 1)
		checkTold(t, fmt.Sprint("BlockShrink of ", x), left, ok, wrongNumbers())
	}
	for _, block := range []int64{0, -1, 129, 1 << 32, math.MinInt64, math.MaxInt64} {
		left, ok := impl.BlockShrink([]float32{1, 2}, block, 1)
		checkTold(t, fmt.Sprint("BlockShrink with blocks of ", block), left, ok, wrongNumbers())
	}
	for _, limit := range wrongLimits() {
		left, ok := impl.BlockShrink([]float32{1, 2}, 1, limit)
		checkTold(t, fmt.Sprint("BlockShrink with limit ", limit), left, ok, wrongNumbers())
	}
}

func TestPromise6NoiseIsTakenAway(t *testing.T) {
	r, one := rand.New(rand.NewPCG(8, 5)), impl.Pair{Low: []float32{1, 0}}
	clean, ok := impl.Denoise([]float32{4, 4}, one, 1, true)
	checkNumbers(t, "Denoise of 4, 4", clean, ok, []float32{4, 0}) // what is high is -4, which is all noise
	clean, ok = impl.Denoise([]float32{4, -1, 4, -9, 4, 1, 4, -1}, one, 1, true)
	checkNumbers(t, "Denoise of four numbers of noise", clean, ok, []float32{4, 0, 4, -9, 4, 0, 4, 0}) // the limit is 1 / 0.6745 times the root of 2 ln 8
	for _, n := range []int{2, 64, 128} {
		clean, ok := impl.Denoise(list(n, float32(3)), impl.HaarPair(), 1, false)
		checkNear(t, "Denoise of an even list", clean, ok, list(n, float32(3)), 0.00001)
	}
	for n := 2; n <= 128; n += 2 {
		for levels := int64(1); levels <= 6 && n%(1<<levels) == 0; levels++ {
			for _, p := range manyPairs(r) {
				for _, x := range [][]float32{lightNumbers(r, n), middleNumbers(r, n), smallNumbers(r, n), anyNumbers(r, n)} {
					for _, hard := range []bool{false, true} {
						clean, ok := impl.Denoise(x, p, levels, hard)
						checkTold(t, fmt.Sprint("Denoise of ", x, " with ", p, levels, hard), clean, ok, toldDenoise(x, p, levels, hard))
					}
				}
			}
		}
	}
}

// alternating has count numbers, every other one of which is less than 0.
func alternating(count int, x float32) []float32 {
	all := []float32{}
	for range count {
		all, x = append(all, x), -x
	}
	return all
}

func TestPromise6NoiseThatIsNotTakenAway(t *testing.T) {
	most := number(0x7f7fffff)
	check := func(x []float32, p impl.Pair, levels int64) {
		t.Helper()
		for _, hard := range []bool{false, true} {
			clean, ok := impl.Denoise(x, p, levels, hard)
			checkTold(t, fmt.Sprint("Denoise of ", x, " with ", p, levels), clean, ok, wrongNumbers())
		}
	}
	for _, x := range append(wrongLists(), []float32{1}, []float32{1, 2, 3}, []float32{most, most}, []float32{-most, most}, alternating(128, 0x1p126)) { // the last one has an infinite limit
		check(x, impl.HaarPair(), 1)
	}
	for _, p := range wrongPairs() {
		check([]float32{1, 2}, p, 1)
	}
	check([]float32{0, most}, impl.Pair{Low: []float32{1, 0}}, 1) // the noise is infinite, but not the bands
	for _, levels := range []int64{0, -1, 2, 6, 7, 64, math.MinInt64, math.MaxInt64} {
		check([]float32{1, 2}, impl.HaarPair(), levels)
		check([]float32{1, 2, 3, 4, 5, 6}, impl.HaarPair(), levels)
	}
	check(list(128, float32(1)), impl.HaarPair(), 7)
}
