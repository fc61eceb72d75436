package tests

import (
	"fmt"
	"math"
	"math/rand/v2"
	"slices"
	"testing"

	"loop.example/g01317/impl"
)

func checkRates(t *testing.T, what string, bits []int64, misses []float32, ok bool, wantBits []int64, want []float32) {
	t.Helper()
	checkTold(t, "the misses of "+what, misses, ok, want)
	if !slices.Equal(bits, wantBits) {
		t.Error("the bits of ", what, ": ", bits, ", want ", wantBits)
	}
}

func TestPromise7RatesByHand(t *testing.T) {
	lines, minus := impl.LinesScheme(), number(minusZeroBits)
	for _, c := range []struct {
		list   []float32
		levels int64
		step   float32
		bits   []int64
		misses []float32
	}{
		{[]float32{2}, 1, 1, []int64{0, 2, 3}, []float32{2, 0.5, 0.5}}, {[]float32{-2}, 6, 1, []int64{0, 2, 3}, []float32{2, 0.5, 0.5}}, {[]float32{2}, 1, 4, []int64{0}, []float32{2}}, {[]float32{0}, 1, 1, []int64{0}, []float32{0}}, {[]float32{minus, 0, minus}, 2, 0.5, []int64{0}, []float32{0}}, {list(128, float32(0)), 6, 3, []int64{0}, []float32{0}},
		{[]float32{1, 3, 2}, 1, 1, []int64{0, 4, 9}, numbersOf(0x400a417c, 0x3f997774, 0x3e800000)}, // flat, 1.75, 2.75, 1.5
		{[]float32{1000000}, 1, 1, []int64{0, 2, 3, 4, 5, 6, 7, 8, 9, 10, 11, 12, 13, 14, 15, 16, 17, 18, 19, 20, 21}, []float32{1000000, 475711.5, 213567.5, 82495.5, 16959.5, 16959.5, 575.5, 575.5, 575.5, 575.5, 575.5, 63.5, 63.5, 63.5, 0.5, 0.5, 0.5, 0.5, 0.5, 0.5, 0.5}},
		{list(4, float32(5)), 2, 1, []int64{0, 5, 9, 13}, []float32{5, 0.5, 0.5, 0.5}},
	} {
		bits, misses, ok := impl.RateTable(lines, c.list, c.levels, c.step)
		checkRates(t, fmt.Sprint("RateTable of ", c.list, c.levels, c.step), bits, misses, ok, c.bits, c.misses)
	}
}

func TestPromise7Rates(t *testing.T) {
	r := rand.New(rand.NewPCG(31, 6))
	failures := 0
	for n := 1; n <= 128; n += 1 + n/12 {
		for _, s := range []impl.Scheme{impl.LinesScheme(), impl.NineScheme(), anyScheme(r), {Weights: []float32{0.5}, Scale: 1e-9}} {
			levels := 1 + r.Int64N(6)
			for _, x := range roughLists(r, n) {
				for _, step := range []float32{1, 0.01, size32(x[n/2]), float32(100 * r.Float64()), finitePositive(r)} {
					if step == 0 {
						continue
					}
					wantBits, want := toldRates(s, x, levels, step)
					bits, misses, ok := impl.RateTable(s, x, levels, step)
					checkRates(t, fmt.Sprint("RateTable of ", s, x, levels, step), bits, misses, ok, wantBits, want)
					failures += oneIf(!ok)
				}
			}
		}
	}
	if failures < 100 {
		t.Error("only ", failures, " tables fail")
	}
}

func TestPromise7RatesThatAreNotTold(t *testing.T) {
	least, most, lines := number(1), number(0x7f7fffff), impl.LinesScheme()
	check := func(s impl.Scheme, x []float32, levels int64, step float32) {
		t.Helper()
		bits, misses, ok := impl.RateTable(s, x, levels, step)
		checkNone(t, fmt.Sprint("RateTable of ", s, x, levels, step), ok, bits, misses)
	}
	for _, s := range wrongSchemes() {
		check(s, []float32{1, 2}, 1, 1)
		check(s, []float32{0}, 1, 1)
	}
	for _, x := range wrongLists() {
		check(lines, x, 1, 1)
	}
	for _, levels := range []int64{0, -1, 7, 64, math.MinInt64, math.MaxInt64} {
		check(lines, []float32{1, 2}, levels, 1)
		check(lines, []float32{1}, levels, 1)
	}
	for _, step := range append(wrongLimits(), 0, number(minusZeroBits)) {
		check(lines, []float32{1, 2}, 1, step)
		check(lines, []float32{0}, 1, step)
	}
	check(lines, []float32{1}, 1, least)
	check(lines, []float32{1000001}, 1, 1)
	check(lines, []float32{most, -most, most}, 1, most) // no band is finite
	check(lines, []float32{most}, 1, most)              // the square is infinite
	check(lines, []float32{0x1p64}, 1, 0x1p64)
	// What the integer 1 of a band tells is infinite.
	check(impl.Scheme{Weights: []float32{0}, Scale: 0x1.8p64}, []float32{0x1p63, 0x1p63}, 1, 0x1.8p127)
	// Bands are told, but lead back to no list.
	check(impl.Scheme{Weights: []float32{0x1p60, 0x1p60}, Scale: 1}, []float32{1, 0}, 1, 0x1p122)
	bits, misses, ok := impl.RateTable(lines, []float32{0x1p63}, 1, 0x1p63)
	checkRates(t, "RateTable of a great number", bits, misses, ok, []int64{0, 2}, []float32{0x1p63, 0x1p62})
	bits, misses, ok = impl.RateTable(lines, []float32{most}, 1, most)
	checkNone(t, "RateTable of the greatest number", ok, bits, misses)
}

func TestPromise7HullsByHand(t *testing.T) {
	least, most, minus := number(1), number(0x7f7fffff), number(minusZeroBits)
	for _, c := range []struct {
		bits   []int64
		misses []float32
		want   []int64
	}{
		{[]int64{0, 2, 4}, []float32{4, 3, 0}, []int64{0, 2}}, {[]int64{0, 2, 4}, []float32{4, 1, 1}, []int64{0, 1}}, {[]int64{0}, []float32{0}, []int64{0}}, {[]int64{5}, []float32{most}, []int64{0}}, {[]int64{math.MaxInt64}, []float32{minus}, []int64{0}},
		{[]int64{0, 1, 2}, []float32{2, 1, 0}, []int64{0, 2}}, {[]int64{0, 1, 2, 3}, []float32{3, 2, 1, 0}, []int64{0, 3}}, {[]int64{0, 1, 2}, []float32{1, 1, 1}, []int64{0}}, {[]int64{0, 1, 2}, []float32{1, 2, 3}, []int64{0}}, {[]int64{0, 1, 2}, []float32{1, 2, 0}, []int64{0, 2}}, {[]int64{0, 1, 2, 3}, []float32{4, 2, 1, 0}, []int64{0, 1, 3}}, {[]int64{3, 4, 8, 9}, []float32{8, 4, 3, 0}, []int64{0, 1, 3}}, // several ones are equally good
		{[]int64{0, 1, 2}, []float32{0, minus, 0}, []int64{0}}, {[]int64{0, 1}, []float32{least, 0}, []int64{0, 1}}, {[]int64{0, 2}, []float32{least, 0}, []int64{0}}, {[]int64{0, 2}, []float32{number(2), 0}, []int64{0, 1}}, {[]int64{0, 1, 2}, []float32{most, 0, 0}, []int64{0, 1}}, {[]int64{0, math.MaxInt64}, []float32{1, 0}, []int64{0, 1}}, {[]int64{7, math.MaxInt64}, []float32{0, 1}, []int64{0}},
		{[]int64{0, 1 << 24, 1<<24 + 1}, []float32{1, 0.5, 0.5}, []int64{0, 2}}, {[]int64{1 << 24, 1<<24 + 1, 1<<24 + 2}, []float32{3, 2, 0.5}, []int64{0, 2}}, // differences, not bits, become 32-bit numbers
		{indexList(64), descending(64), []int64{0, 63}}, {indexList(64), list(64, float32(1)), []int64{0}}, {[]int64{10, 20, 30, 40, 50}, []float32{100, 50, 40, 10, 9}, []int64{0, 1, 3, 4}},
	} {
		got, ok := impl.HullOf(c.bits, c.misses)
		checkIntegers(t, fmt.Sprint("HullOf ", c.bits, c.misses), got, ok, c.want)
		last, ok := impl.LastOfHull(c.bits, c.misses)
		checkCount(t, fmt.Sprint("LastOfHull of ", c.bits, c.misses), last, ok, c.want[len(c.want)-1])
	}
}

// descending has the integers from count - 1 down to 0.
func descending(count int) []float32 {
	x := []float32{}
	for i := range count {
		x = append(x, float32(count-1-i))
	}
	return x
}

func TestPromise7Hulls(t *testing.T) {
	r := rand.New(rand.NewPCG(32, 6))
	for n := 1; n <= 64; n++ {
		for _, far := range []int64{1, 2, 5, 1000, 1 << 30, 1 << 55} {
			for _, x := range append(roughLists(r, n), descending(n)) {
				bits, misses, at := []int64{}, sizesOf(x), r.Int64N(3)
				for range n {
					bits = append(bits, at)
					at += 1 + r.Int64N(far)
				}
				if r.IntN(2) == 0 {
					slices.Sort(misses)
					slices.Reverse(misses)
				}
				want := toldHull(bits, misses)
				got, ok := impl.HullOf(bits, misses)
				checkIntegers(t, fmt.Sprint("HullOf ", bits, misses), got, ok, want)
				last, ok := impl.LastOfHull(bits, misses)
				checkCount(t, fmt.Sprint("LastOfHull of ", bits, misses), last, ok, want[len(want)-1])
			}
		}
	}
}

func TestPromise7HullsOfTables(t *testing.T) {
	r := rand.New(rand.NewPCG(33, 6))
	for n := 1; n <= 128; n += 9 {
		bits, misses, _ := impl.RateTable(impl.NineScheme(), lightNumbers(r, n), 3, 0.01)
		hull, ok := impl.HullOf(bits, misses)
		checkIntegers(t, fmt.Sprint("HullOf ", bits, misses), hull, ok, toldHull(bits, misses))
	}
}

func TestPromise7HullsThatThereAreNot(t *testing.T) {
	check := func(bits []int64, misses []float32) {
		t.Helper()
		got, ok := impl.HullOf(bits, misses)
		checkNone(t, fmt.Sprint("HullOf ", bits, misses), ok, got)
		last, ok := impl.LastOfHull(bits, misses)
		checkNone(t, fmt.Sprint("LastOfHull of ", bits, misses), ok, last)
	}
	for _, bits := range [][]int64{{2, 2}, {2, 1}, {-1, 0}, {-1, 2}, {math.MinInt64, 0}, {math.MinInt64, math.MaxInt64}, {math.MaxInt64, math.MaxInt64}, {math.MaxInt64, 0}, {math.MaxInt64, 5}, {math.MaxInt64, math.MinInt64}, {0, -1}, {0, 0}, {1}, {1, 2, 3}, nil} {
		check(bits, []float32{1, 1})
		check(bits, []float32{1, 0})
	}
	for _, bits := range [][]int64{{0, 1, 1}, {0, 2, 1}, {5, 6, 0}, {-1, 1, 2}, {0, 3, 3}} {
		check(bits, []float32{4, 2, 1})
	}
	for _, wrong := range wrongLimits() {
		check([]int64{1}, []float32{wrong})
		check([]int64{1, 2, 3}, []float32{1, wrong, 0})
		check([]int64{1, 2, 3}, []float32{wrong, 1, 0})
		check([]int64{1, 2, 3}, []float32{2, 1, wrong})
	}
	check(nil, nil)
	check([]int64{}, []float32{})
	check([]int64{1}, nil)
	check(nil, []float32{1})
	check([]int64{-1}, []float32{1})
	check([]int64{math.MinInt64}, []float32{1})
	check(indexList(65), descending(65))
	check(indexList(64), descending(65))
	check(indexList(65), descending(64))
	check(indexList(1000), descending(1000))
}
