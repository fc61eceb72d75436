package tests

import (
	"fmt"
	"math"
	"math/rand/v2"
	"slices"
	"testing"

	"loop.example/g01317/impl"
)

// evenThen has count zeros, and then some other numbers.
func evenThen(count int, others ...float32) []float32 {
	return append(make([]float32, count), others...)
}

func TestPromise6BestBreaks(t *testing.T) {
	minus := number(minusZeroBits)
	for _, c := range []struct {
		list []float32
		at   int64
		gain float32
	}{
		{[]float32{1, 1, 5, 5}, 2, 16}, {[]float32{1, 5}, 1, 8}, {[]float32{3, 3}, 1, 0}, {[]float32{minus, 0}, 1, 0}, {list(128, float32(7)), 1, 0}, {[]float32{0, 4, 0}, 1, number(0x402aaaab)}, {[]float32{0, 4, 4, 0}, 1, number(0x40aaaaab)}, {[]float32{4, 0, 0, 4}, 1, number(0x40aaaaaa)},
		{[]float32{0, 0, 3}, 2, 6}, {[]float32{3, 0, 0}, 1, 6}, {[]float32{-2, 2, -2, 2}, 1, number(0x40aaaaab)}, {[]float32{0x1p63, 0x1p63}, 1, 0}, {[]float32{0x1p62, -0x1p62}, 1, 0x1p125}, {evenThen(127, 128), 127, 16256}, {append([]float32{128}, make([]float32, 127)...), 1, 16256},
	} {
		at, gain, ok := impl.BestBreak(c.list)
		if at != c.at {
			t.Error("BestBreak of ", c.list, " is at ", at, ", want ", c.at)
		}
		checkFound(t, fmt.Sprint("the gain of ", c.list), gain, ok, bitsOf(c.gain), true)
	}
	r := rand.New(rand.NewPCG(11, 5))
	for n := 2; n <= 128; n++ {
		for _, x := range append(roughLists(r, n), steps(r, n)) {
			at, gain, ok := impl.BestBreak(x)
			wantAt, want := toldBreak(x)
			if at != int64(wantAt) {
				t.Error("BestBreak of ", x, " is at ", at, ", want ", wantAt)
			}
			checkToldNumber(t, fmt.Sprint("the gain of ", x), gain, ok, want)
		}
	}
}

// steps has pieces of equal small integers.
func steps(r *rand.Rand, n int) []float32 {
	x := []float32{}
	for len(x) < n {
		x = append(x, list(1+r.IntN(min(n-len(x), 20)), smallNumbers(r, 1)[0])...)
	}
	return x
}

func TestPromise6ListsWithoutBestBreak(t *testing.T) {
	most := number(0x7f7fffff)
	for _, x := range append(wrongLists(), []float32{1}, []float32{0}, []float32{most}, []float32{most, most}, []float32{-most, most}, []float32{-most, -most, most, most}, []float32{0x1p64, -0x1p64}, []float32{-most, most, most}, []float32{most, most, -most}) {
		at, gain, ok := impl.BestBreak(x)
		checkFound(t, fmt.Sprint("the gain of ", x), gain, ok, 0, false)
		if at != 0 {
			t.Error("BestBreak of ", x, " is at ", at)
		}
	}
}

func TestPromise6Breaks(t *testing.T) {
	most := number(0x7f7fffff)
	for _, c := range []struct {
		list  []float32
		least float32
		most  int64
		want  []int64
	}{
		{[]float32{1, 1, 5, 5}, 1, 3, []int64{2}}, {[]float32{1, 1, 5, 5}, 16, 3, []int64{2}}, {[]float32{1, 1, 5, 5}, number(0x41800001), 3, nil}, {[]float32{1, 1, 5, 5}, 1, 0, nil}, {[]float32{1, 1, 5, 5}, 0, 16, []int64{1, 2, 3}}, {[]float32{1, 1, 5, 5}, number(minusZeroBits), 2, []int64{1, 2}}, {[]float32{1, 1, 5, 5}, -1, 2, []int64{1, 2}},
		{[]float32{5}, 0, 16, nil}, {[]float32{5}, -most, 16, nil}, {[]float32{5, 6}, 0.5, 16, []int64{1}}, {[]float32{5, 6}, 0.6, 16, nil}, {[]float32{5, 5}, 0, 16, []int64{1}}, {[]float32{5, 5}, number(1), 16, nil}, {[]float32{5, 6}, most, 16, nil},
		{[]float32{0, 0, 9, 9, 0, 0}, 1, 16, []int64{2, 4}}, {[]float32{0, 0, 0, 9, 0, 0}, 1, 16, []int64{3, 4}}, {[]float32{0, 1, 8, 9, 100, 101}, 1, 16, []int64{2, 4}}, {[]float32{0, 1, 100, 101}, 0.5, 2, []int64{1, 2}}, {[]float32{0, 1, 100, 102}, 0.5, 2, []int64{2, 3}}, // the first one of two pieces, then the better one
		{list(128, float32(7)), 0, 16, []int64{1, 2, 3, 4, 5, 6, 7, 8, 9, 10, 11, 12, 13, 14, 15, 16}}, {list(128, float32(7)), number(1), 16, nil}, {[]float32{most, most}, 0, 0, nil}, {[]float32{most}, 0, 16, nil},
	} {
		breaks, ok := impl.BreaksOf(c.list, c.least, c.most)
		checkIntegers(t, fmt.Sprint("BreaksOf ", c.list, c.least, c.most), breaks, ok, c.want)
	}
	r := rand.New(rand.NewPCG(12, 5))
	for n := 1; n <= 128; n++ {
		for _, x := range append(roughLists(r, n), steps(r, n), steps(r, n)) {
			for _, most := range []int64{0, 1, 2, r.Int64N(17), 16} {
				checkBreaks(t, x, float32(3*r.Float64()), most)
			}
			checkBreaks(t, x, 0, 16)
		}
	}
}

func checkBreaks(t *testing.T, x []float32, least float32, most int64) {
	t.Helper()
	want, found := toldBreaks(x, least, most)
	breaks, ok := impl.BreaksOf(x, least, most)
	if ok != found || !slices.Equal(breaks, want) {
		t.Error("BreaksOf ", x, least, most, ": ", breaks, ok, ", want ", want, found)
	}
}

// A piece that has no gain which is finite is only looked at where there may be
// one more break.
func TestPromise6BreaksOfPiecesWithoutGains(t *testing.T) {
	x := append(evenThen(64, 1e20, -1e20), make([]float32, 62)...)
	breaks, ok := impl.BreaksOf(x, 0, 1)
	checkIntegers(t, "BreaksOf a list with one break", breaks, ok, []int64{65})
	breaks, ok = impl.BreaksOf(x, 3.3e38, 16)
	checkIntegers(t, "BreaksOf a list whose gain is too small", breaks, ok, nil)
	if breaks, ok := impl.BreaksOf(x, 0, 2); ok || len(breaks) != 0 {
		t.Error("BreaksOf a list with two breaks: ", breaks, ok)
	}
}

func TestPromise6BreaksThatAreNotTold(t *testing.T) {
	most := number(0x7f7fffff)
	check := func(x []float32, least float32, most int64) {
		t.Helper()
		if breaks, ok := impl.BreaksOf(x, least, most); ok || len(breaks) != 0 {
			t.Error("BreaksOf ", x, least, most, ": ", breaks, ok)
		}
	}
	for _, x := range wrongLists() {
		check(x, 0, 0)
		check(x, 0, 16)
	}
	check([]float32{most, most}, 0, 1)
	check([]float32{-most, most}, most, 16)
	for _, least := range wrongNumbers() {
		check([]float32{1, 2}, least, 0)
		check([]float32{1, 2}, least, 16)
	}
	for _, most := range []int64{-1, 17, 128, math.MinInt64, math.MaxInt64} {
		check([]float32{1, 2}, 0, most)
		check([]float32{1}, 0, most)
	}
}

func TestPromise6Means(t *testing.T) {
	minus, most := number(minusZeroBits), number(0x7f7fffff)
	for _, c := range []struct {
		list   []float32
		breaks []int64
		want   []float32
	}{
		{[]float32{1, 3, 6}, []int64{2}, []float32{2, 2, 6}}, {[]float32{1, 3, 6}, []int64{1}, []float32{1, 4.5, 4.5}}, {[]float32{1, 3, 8}, nil, []float32{4, 4, 4}}, {[]float32{1, 3, 6}, []int64{1, 2}, []float32{1, 3, 6}}, {[]float32{-5}, []int64{}, []float32{-5}}, {[]float32{minus, minus}, []int64{1}, []float32{0, 0}},
		{[]float32{most, -most, 2, most}, []int64{3}, []float32{0x1.555556p-1, 0x1.555556p-1, 0x1.555556p-1, most}}, {[]float32{1, 0x1p24, -0x1p24}, nil, []float32{0, 0, 0}}, {list(128, float32(3)), []int64{127}, list(128, float32(3))},
	} {
		means, ok := impl.SegmentMeans(c.list, c.breaks)
		checkNumbers(t, fmt.Sprint("SegmentMeans of ", c.list, c.breaks), means, ok, c.want)
	}
	r := rand.New(rand.NewPCG(13, 5))
	for n := 1; n <= 128; n++ {
		for count := range min(n, 17) {
			breaks := []int64{}
			for _, at := range r.Perm(n - 1)[:count] {
				breaks = append(breaks, int64(at+1))
			}
			slices.Sort(breaks)
			for _, x := range roughLists(r, n) {
				means, ok := impl.SegmentMeans(x, breaks)
				checkTold(t, fmt.Sprint("SegmentMeans of ", x, breaks), means, ok, toldMeans(x, breaks))
			}
		}
	}
}

func TestPromise6MeansThatAreNotTold(t *testing.T) {
	most := number(0x7f7fffff)
	check := func(x []float32, breaks ...int64) {
		t.Helper()
		means, ok := impl.SegmentMeans(x, breaks)
		checkTold(t, fmt.Sprint("SegmentMeans of ", x, breaks), means, ok, wrongNumbers())
	}
	for _, x := range wrongLists() {
		check(x)
		check(x, 1)
	}
	check([]float32{1, 2}, 2)
	check([]float32{1, 2}, 0)
	check([]float32{1}, 1)
	check([]float32{1}, 0)
	check([]float32{most, most})
	check([]float32{1, most, most}, 1)
	check([]float32{most, most, 1}, 2)
	four := []float32{1, 2, 3, 4}
	for _, breaks := range [][]int64{{1, 1}, {2, 1}, {0, 1}, {1, 4}, {3, 4}, {-1, 2}, {1, 5}, {1, 2, 2}, {3, 2}, {math.MinInt64}, {math.MaxInt64}, {1, math.MinInt64}, {math.MinInt64, 1}, {1, math.MaxInt64}, {math.MaxInt64, math.MinInt64}} {
		check(four, breaks...)
	}
	check(list(128, float32(1)), 1, 2, 3, 4, 5, 6, 7, 8, 9, 10, 11, 12, 13, 14, 15, 16, 17)
	check(list(128, float32(1)), list(1000, int64(5))...)
}

func TestPromise6Seasons(t *testing.T) {
	minus, most := number(minusZeroBits), number(0x7f7fffff)
	for _, c := range []struct {
		list         []float32
		period       int64
		season, left []float32
	}{
		{[]float32{1, 3, 1, 3}, 2, []float32{-1, 1}, []float32{2, 2, 2, 2}}, {[]float32{1, 3, 1, 3}, 1, []float32{0}, []float32{1, 3, 1, 3}}, {[]float32{1, 3, 1, 3}, 4, []float32{-1, 1, -1, 1}, []float32{2, 2, 2, 2}}, {[]float32{1, 3, 5}, 2, []float32{0, 0}, []float32{1, 3, 5}}, {[]float32{0, 3, 3}, 2, []float32{-0.5, 1}, []float32{0.5, 2, 3.5}},
		{[]float32{minus}, 1, []float32{0}, []float32{minus}}, {[]float32{5}, 1, []float32{0}, []float32{5}}, {[]float32{4, 6}, 2, []float32{-1, 1}, []float32{5, 5}}, {list(128, float32(9)), 128, make([]float32, 128), list(128, float32(9))}, {list(128, float32(9)), 3, make([]float32, 3), list(128, float32(9))},
	} {
		season, ok := impl.SeasonOf(c.list, c.period)
		checkNumbers(t, fmt.Sprint("SeasonOf ", c.list, c.period), season, ok, c.season)
		left, ok := impl.WithoutSeason(c.list, c.period)
		checkNumbers(t, fmt.Sprint("WithoutSeason of ", c.list, c.period), left, ok, c.left)
	}
	r := rand.New(rand.NewPCG(14, 5))
	for n := 1; n <= 128; n++ {
		for _, period := range []int64{1, 1 + r.Int64N(int64(n)), 1 + r.Int64N(int64(n)), int64(n)} {
			for _, x := range roughLists(r, n) {
				season, ok := impl.SeasonOf(x, period)
				checkTold(t, fmt.Sprint("SeasonOf ", x, period), season, ok, toldSeason(x, period))
				if left, ok := impl.WithoutSeason(x, period); finite(toldSeason(x, period)) {
					checkTold(t, fmt.Sprint("WithoutSeason of ", x, period), left, ok, toldWithoutSeason(x, period))
				} else {
					checkTold(t, fmt.Sprint("WithoutSeason of ", x, period), left, ok, wrongNumbers())
				}
			}
		}
	}
	check := func(x []float32, period int64) {
		t.Helper()
		season, ok := impl.SeasonOf(x, period)
		checkTold(t, fmt.Sprint("SeasonOf ", x, period), season, ok, wrongNumbers())
		left, ok := impl.WithoutSeason(x, period)
		checkTold(t, fmt.Sprint("WithoutSeason of ", x, period), left, ok, wrongNumbers())
	}
	for _, period := range []int64{0, -1, 4, 129, 1 << 32, math.MinInt64, math.MaxInt64} {
		check([]float32{1, 2, 3}, period)
	}
	for _, x := range append(wrongLists(), []float32{most, most}, []float32{-most, -most}, []float32{most, most, -most, -most}, []float32{-most, most, -most, most}) {
		check(x, min(int64(len(x)), 2))
	}
	// The difference of a number and its season is infinite.
	season, ok := impl.SeasonOf([]float32{most, -most, -most, -most, most}, 2)
	checkTold(t, "SeasonOf great numbers", season, ok, toldSeason([]float32{most, -most, -most, -most, most}, 2))
	left, ok := impl.WithoutSeason([]float32{-most, 0, most, 0, most}, 2)
	checkTold(t, "WithoutSeason of great numbers", left, ok, wrongNumbers())
}

func TestPromise6Trends(t *testing.T) {
	minus, most := number(minusZeroBits), number(0x7f7fffff)
	for _, c := range []struct {
		list        []float32
		slope, base float32
	}{
		{[]float32{1, 3, 5}, 2, 1}, {[]float32{1, 3}, 2, 1}, {[]float32{7, 7}, 0, 7}, {[]float32{minus, minus}, 0, 0}, {[]float32{3, 1}, -2, 3}, {[]float32{0, 3, 0}, 0, 1}, {[]float32{1, 2, 4}, 1.5, 0x1.aaaaaap-1}, {list(4, float32(-2)), 0, -2}, {[]float32{-1, -2, -3, -4}, -1, -1}, {list(128, float32(2)), 0, 2},
	} {
		slope, base, ok := impl.TrendOf(c.list)
		checkFound(t, fmt.Sprint("the slope of ", c.list), slope, ok, bitsOf(c.slope), true)
		checkNumber(t, fmt.Sprint("the base of ", c.list), base, bitsOf(c.base))
	}
	r := rand.New(rand.NewPCG(15, 5))
	for n := 2; n <= 128; n++ {
		for _, x := range append(roughLists(r, n), anyNumbers(r, n)) {
			wantSlope, wantBase := toldTrend(x)
			if !finite([]float32{wantSlope, wantBase}) {
				wantSlope, wantBase = number(infinityBits), 0
			}
			slope, base, ok := impl.TrendOf(x)
			checkToldNumber(t, fmt.Sprint("the slope of ", x), slope, ok, wantSlope)
			checkNumber(t, fmt.Sprint("the base of ", x), base, bitsOf(wantBase))
		}
	}
	for _, x := range append(wrongLists(), []float32{1}, []float32{minus}, []float32{most, most}, []float32{0, most, 0}, []float32{most, 0, most}, []float32{0, 0, 0x1.8p126}, []float32{0, 0x1p127, 0}, []float32{0x1.2p127, -0x1.9p126}) { // the last one has a slope, but no base
		slope, base, ok := impl.TrendOf(x)
		checkFound(t, fmt.Sprint("the slope of ", x), slope, ok, 0, false)
		checkNumber(t, fmt.Sprint("the base of ", x), base, 0)
	}
}

func TestPromise6KernelMeans(t *testing.T) {
	minus, most := number(minusZeroBits), number(0x7f7fffff)
	for _, c := range []struct {
		times, values []float32
		at, wide      float32
		want          float32
	}{
		{[]float32{0, 2}, []float32{4, 8}, 1, 1, 6}, {[]float32{5}, []float32{-7}, 5, 0.5, -7}, {[]float32{minus}, []float32{minus}, 0, 1, 0}, {[]float32{0, 100}, []float32{4, 8}, 0, 1, 4}, {[]float32{0, 100}, []float32{4, 8}, 100, 1, 8}, {[]float32{1, 1, 1}, []float32{1, 2, 6}, 1, 9, 3}, {[]float32{most, -most}, []float32{3, 5}, most, 1, 3}, {[]float32{-most, most}, []float32{3, 5}, 0, most, 4},
		{[]float32{0, 1}, []float32{most, most}, 0, 0.01, most}, {[]float32{most, 0}, []float32{1, 2}, 0, number(1), 2}, {[]float32{0}, []float32{most}, 0, most, most}, {list(128, float32(2)), list(128, float32(0.5)), 2, 3, 0.5}, {[]float32{2, 1}, []float32{4, 8}, minus, 0.125, 8}, // e to the power of -128 is narrowed to 0
	} {
		mean, ok := impl.KernelMean(c.times, c.values, c.at, c.wide)
		checkToldNumber(t, fmt.Sprint("KernelMean of ", c.times, c.values, c.at, c.wide), mean, ok, c.want)
	}
	r := rand.New(rand.NewPCG(16, 5))
	for n := 1; n <= 128; n++ {
		for _, values := range roughLists(r, n) {
			for _, times := range [][]float32{lightNumbers(r, n), smallNumbers(r, n), anyNumbers(r, n)} {
				for _, at := range []float32{0, times[r.IntN(n)], float32(200*r.Float64() - 100)} {
					wide := []float32{float32(0.001 + 20*r.Float64()), finitePositive(r)}[r.IntN(2)]
					mean, ok := impl.KernelMean(times, values, at, wide)
					checkToldNumber(t, fmt.Sprint("KernelMean of ", times, values, at, wide), mean, ok, toldKernelMean(times, values, at, wide))
				}
			}
		}
	}
}

func TestPromise6KernelMeansThatAreNotTold(t *testing.T) {
	minus, most := number(minusZeroBits), number(0x7f7fffff)
	check := func(times, values []float32, at, wide float32) {
		t.Helper()
		mean, ok := impl.KernelMean(times, values, at, wide)
		checkFound(t, fmt.Sprint("KernelMean of ", times, values, at, wide), mean, ok, 0, false)
	}
	for _, x := range wrongLists() {
		check(x, x, 0, 1)
		check(x, list(len(x), float32(1)), 0, 1)
		check(list(len(x), float32(1)), x, 0, 1)
	}
	check([]float32{1}, []float32{1, 1}, 1, 1)
	check([]float32{1, 1}, []float32{1}, 1, 1)
	check([]float32{1}, nil, 1, 1)
	check(nil, []float32{1}, 1, 1)
	for _, wide := range append(wrongLimits(), 0, minus) {
		check([]float32{1}, []float32{1}, 1, wide)
	}
	for _, at := range wrongNumbers() {
		check([]float32{1}, []float32{1}, at, 1)
	}
	check([]float32{100}, []float32{1}, 0, 1) // the weight is nothing
	check([]float32{100, -50}, []float32{1, 2}, 0, 2)
	check([]float32{-most}, []float32{1}, most, 1)
	check([]float32{1, 1}, []float32{most, most}, 1, 1) // the sum is infinite
}
