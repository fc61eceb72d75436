package tests

import (
	"fmt"
	"math"
	"math/rand/v2"
	"testing"

	"loop.example/g01317/impl"
)

func gridLengths() []int { return []int{2, 3, 5, 9, 17, 33, 65} }

// wrongGrids are lists that are no grids.
func wrongGrids() [][]float32 {
	all := [][]float32{nil, {}, {1}}
	for n := 4; n <= 130; n++ {
		if n != 5 && n != 9 && n != 17 && n != 33 && n != 65 {
			all = append(all, list(n, float32(1)))
		}
	}
	for _, wrong := range wrongNumbers() {
		all = append(all, []float32{wrong}, []float32{wrong, 1}, []float32{1, wrong, 1}, append(list(64, float32(0)), wrong))
	}
	return all
}

func TestPromise8GridsByHand(t *testing.T) {
	minus, most := number(minusZeroBits), number(0x7f7fffff)
	for _, c := range []struct{ grid, surplus []float32 }{
		{[]float32{0, 3, 2}, []float32{0, 2, 2}}, {[]float32{5, 7}, []float32{5, 7}}, {[]float32{minus, most}, []float32{minus, most}}, {[]float32{1, 2, 3}, []float32{1, 0, 3}}, {[]float32{0, 1, 8, 3, 4}, []float32{0, -3, 6, -3, 4}}, {[]float32{0, 0, 0, 0, 8, 0, 0, 0, 0}, []float32{0, 0, -4, -4, 8, -4, -4, 0, 0}}, {[]float32{0, 1, 2, 3, 4, 5, 6, 7, 8}, []float32{0, 0, 0, 0, 0, 0, 0, 0, 8}}, {list(65, float32(3)), append(append([]float32{3}, make([]float32, 63)...), 3)},
		{[]float32{most, 0, -most}, []float32{most, 0, -most}}, {[]float32{1, 0, -1}, []float32{1, 0, -1}}, {[]float32{most, 0, 0}, []float32{most, -most / 2, 0}},
	} {
		surplus, ok := impl.SurplusOf(c.grid)
		checkNumbers(t, fmt.Sprint("SurplusOf ", c.grid), surplus, ok, c.surplus)
		grid, ok := impl.FromSurplus(c.surplus)
		checkNumbers(t, fmt.Sprint("FromSurplus of ", c.surplus), grid, ok, c.grid)
	}
	// Halves are rounded, and so are zeros with signs told.
	for _, c := range []struct{ grid, surplus []float32 }{
		{list(3, minus), []float32{minus, 0, minus}}, {numbersOf(0, minusZeroBits, 0), numbersOf(0, minusZeroBits, 0)}, {numbersOf(0, minusZeroBits, minusZeroBits), numbersOf(0, minusZeroBits, minusZeroBits)}, {numbersOf(minusZeroBits, 0, minusZeroBits), numbersOf(minusZeroBits, 0, minusZeroBits)}, {numbersOf(0, 5, 1), numbersOf(0, 5, 1)}, {numbersOf(1, 5, 2), numbersOf(1, 3, 2)}, {[]float32{0x1p25, 1, 2}, []float32{0x1p25, -0x1p24 + 1, 2}}, {[]float32{0x1p25, 0.5, 2}, []float32{0x1p25, -0x1p24, 2}},
	} {
		surplus, ok := impl.SurplusOf(c.grid)
		checkNumbers(t, fmt.Sprint("SurplusOf ", seen(c.grid)), surplus, ok, c.surplus)
	}
	for _, c := range []struct{ surplus, grid []float32 }{
		{list(3, minus), list(3, minus)}, {numbersOf(0, minusZeroBits, 0), numbersOf(0, 0, 0)}, {numbersOf(minusZeroBits, 0, minusZeroBits), numbersOf(minusZeroBits, 0, minusZeroBits)}, {numbersOf(0, 5, 1), numbersOf(0, 5, 1)}, {numbersOf(1, 5, 2), numbersOf(1, 7, 2)}, {[]float32{0x1p25, -0x1p24, 2}, []float32{0x1p25, 0, 2}}, {[]float32{1, 2, 4, 8, 16}, []float32{1, 8.75, 12.5, 22.25, 16}},
	} {
		grid, ok := impl.FromSurplus(c.surplus)
		checkNumbers(t, fmt.Sprint("FromSurplus of ", seen(c.surplus)), grid, ok, c.grid)
	}
}

func TestPromise8GridsAsTold(t *testing.T) {
	r := rand.New(rand.NewPCG(21, 7))
	for range 100 {
		for _, n := range gridLengths() {
			for _, x := range roughLists(r, n) {
				surplus, ok := impl.SurplusOf(x)
				checkTold(t, fmt.Sprint("SurplusOf ", x), surplus, ok, toldSurplus(x))
				grid, ok := impl.FromSurplus(x)
				checkTold(t, fmt.Sprint("FromSurplus of ", x), grid, ok, toldGrid(x))
				for _, limit := range []float32{0, number(minusZeroBits), 0.5, 2, size32(x[n/2]), size32(toldSurplus(x)[n/2]), float32(100 * r.Float64())} {
					if !finite([]float32{limit}) {
						continue
					}
					what := fmt.Sprint("ThinSurplus of ", x, limit)
					want, wantCount := toldThin(x, limit)
					thin, count, ok := impl.ThinSurplus(x, limit)
					checkTold(t, what, thin, ok, want)
					if !finite(want) {
						wantCount = 0
					}
					if count != wantCount {
						t.Error(what, ": ", count, ", want ", wantCount)
					}
				}
			}
		}
	}
}

func TestPromise8GridsAreUndone(t *testing.T) {
	r := rand.New(rand.NewPCG(22, 7))
	for range 100 {
		for _, n := range gridLengths() {
			x := lightNumbers(r, n)
			surplus, one := impl.SurplusOf(x)
			back, two := impl.FromSurplus(surplus)
			checkNear(t, fmt.Sprint("FromSurplus of SurplusOf ", x), back, one && two, x, 0.0001)
			thin, count, ok := impl.ThinSurplus(x, 0)
			checkNumbers(t, fmt.Sprint("ThinSurplus of ", x, " with no limit"), thin, ok, back)
			checkCount(t, fmt.Sprint("ThinSurplus of ", x, " with no limit"), count, ok, int64(n-2))
			for i := range x {
				x[i] = float32(r.IntN(2001) - 1000)
			}
			surplus, one = impl.SurplusOf(x)
			back, two = impl.FromSurplus(surplus)
			checkNumbers(t, fmt.Sprint("FromSurplus of SurplusOf ", x), back, one && two, x)
		}
	}
}

func TestPromise8ThinGridsByHand(t *testing.T) {
	minus, most := number(minusZeroBits), number(0x7f7fffff)
	for _, c := range []struct {
		grid  []float32
		limit float32
		want  []float32
		count int64
	}{
		{[]float32{0, 3, 2}, 2, []float32{0, 1, 2}, 0}, {[]float32{0, 3, 2}, 1.9999999, []float32{0, 3, 2}, 1}, {[]float32{0, -3, -2}, 2, []float32{0, -1, -2}, 0}, {[]float32{0, -3, -2}, 1.9999999, []float32{0, -3, -2}, 1}, {[]float32{0, 3, 2}, most, []float32{0, 1, 2}, 0}, {[]float32{5, 7}, 100, []float32{5, 7}, 0}, {[]float32{5, 7}, 0, []float32{5, 7}, 0}, {[]float32{minus, minus}, 3, []float32{minus, minus}, 0}, {list(65, float32(3)), 0, list(65, float32(3)), 0},
		{[]float32{0, 1, 8, 3, 4}, 3, []float32{0, 4, 8, 6, 4}, 1}, {[]float32{0, 1, 8, 3, 4}, 6, []float32{0, 1, 2, 3, 4}, 0}, {[]float32{0, 1, 8, 3, 4}, 0, []float32{0, 1, 8, 3, 4}, 3}, {[]float32{0, 1, 8, 3, 4}, minus, []float32{0, 1, 8, 3, 4}, 3}, {numbersOf(0, 5, 0), number(5), []float32{0, 0, 0}, 0}, {numbersOf(0, 5, 0), number(4), numbersOf(0, 5, 0), 1}, {numbersOf(0, minusZeroBits, 0), 0, []float32{0, 0, 0}, 0}, {numbersOf(0, 1, 0), 0, numbersOf(0, 1, 0), 1},
		{[]float32{most, 0, 0}, most / 2, []float32{most, most / 2, 0}, 0},
	} {
		what := fmt.Sprint("ThinSurplus of ", c.grid, c.limit)
		got, count, ok := impl.ThinSurplus(c.grid, c.limit)
		checkNumbers(t, what, got, ok, c.want)
		checkCount(t, what, count, ok, c.count)
	}
}

func TestPromise8GridsThatAreNotTold(t *testing.T) {
	most := number(0x7f7fffff)
	for _, x := range append(wrongGrids(), []float32{most, 0, most}, []float32{-most, 0, -0x1p103}, []float32{0, most, -most}, append(list(63, float32(0)), most, -most)) {
		surplus, ok := impl.SurplusOf(x)
		checkNone(t, fmt.Sprint("SurplusOf ", x), ok, surplus)
		for _, limit := range []float32{0, 1, most} {
			thin, count, ok := impl.ThinSurplus(x, limit)
			checkNone(t, fmt.Sprint("ThinSurplus of ", x, limit), ok, thin, count)
		}
	}
	for _, x := range append(wrongGrids(), []float32{most, 0, most}, []float32{-most, 0, -0x1p103}, []float32{0, most, most}, append(list(63, float32(0)), most, most), []float32{0, 0, most, most, most}) {
		grid, ok := impl.FromSurplus(x)
		checkNone(t, fmt.Sprint("FromSurplus of ", x), ok, grid)
	}
	for _, limit := range wrongLimits() {
		for _, x := range [][]float32{{1, 2}, {1, 2, 3}} {
			thin, count, ok := impl.ThinSurplus(x, limit)
			checkNone(t, fmt.Sprint("ThinSurplus of ", x, limit), ok, thin, count)
		}
	}
	// Surpluses are told, but the grid of those that are left is not.
	grid := []float32{0, 0x1.8p127, 0, 0x1.8p127, 0x1.8p127}
	if surplus, ok := impl.SurplusOf(grid); !ok {
		t.Error("SurplusOf ", grid, " fails: ", surplus)
	}
	thin, count, ok := impl.ThinSurplus(grid, 0x1.9p126)
	checkNone(t, fmt.Sprint("ThinSurplus of ", grid), ok, thin, count)
}

// fillCase has the arguments of FillRounds.
type fillCase struct {
	x           []float32
	known       []bool
	p           impl.Pair
	levels      int64
	limit, fade float32
	turns       int64
}

func (c fillCase) fill() ([]float32, bool) {
	return impl.FillRounds(c.x, c.known, c.p, c.levels, c.limit, c.fade, c.turns)
}

func (c fillCase) told() []float32 {
	return toldFill(c.x, c.known, c.p, c.levels, c.limit, c.fade, c.turns)
}

func TestPromise8HolesByHand(t *testing.T) {
	minus, most, haar, one := number(minusZeroBits), number(0x7f7fffff), impl.HaarPair(), impl.Pair{Low: []float32{1, 0}}
	some, even := []float32{1, 9, 3, 9}, []bool{true, false, true, false}
	for _, c := range []struct {
		fillCase
		want []float32
	}{
		{fillCase{some, even, haar, 1, 1, 1, 0}, []float32{1, 2, 3, 2}}, {fillCase{some, even, haar, 2, 1, 1, 0}, []float32{1, 2, 3, 2}}, {fillCase{some, []bool{true, true, true, true}, haar, 1, 1, 1, 0}, some}, {fillCase{some, []bool{true, true, true, true}, haar, 2, 5, 0, 32}, some}, {fillCase{some, []bool{false, false, false, true}, haar, 1, 0, 0, 0}, list(4, float32(9))},
		{fillCase{[]float32{minus, 5}, []bool{true, false}, haar, 1, 0, 0, 0}, []float32{minus, 0}}, {fillCase{[]float32{5, 7}, []bool{false, true}, haar, 1, 0, 0, 0}, []float32{7, 7}}, {fillCase{list(128, float32(3)), append(list(127, false), true), haar, 6, 0, 0, 0}, list(128, float32(3))},
		// With the pair 1, 0, numbers with even indices are what is low, and others
		// come nearer to 0 by the limit.
		{fillCase{some, even, one, 1, 0.5, 1, 1}, []float32{1, 1.5, 3, 1.5}}, {fillCase{some, even, one, 1, 0.5, 1, 2}, []float32{1, 1, 3, 1}}, {fillCase{some, even, one, 1, 0.5, 1, 32}, []float32{1, 0, 3, 0}}, {fillCase{some, even, one, 1, 0.5, 0.5, 2}, []float32{1, 1.25, 3, 1.25}}, {fillCase{some, even, one, 1, 0.5, 0.5, 3}, []float32{1, 1.125, 3, 1.125}}, {fillCase{some, even, one, 1, 0.5, 0, 9}, []float32{1, 1.5, 3, 1.5}}, {fillCase{some, even, one, 1, 0.5, minus, 9}, []float32{1, 1.5, 3, 1.5}}, {fillCase{some, even, one, 1, 0, 1, 9}, []float32{1, 2, 3, 2}}, {fillCase{some, even, one, 1, minus, 1, 1}, []float32{1, 2, 3, 2}}, {fillCase{some, even, one, 1, 2, 1, 1}, []float32{1, 0, 3, 0}}, {fillCase{some, even, one, 1, 2.5, 0, 2}, []float32{1, 0, 3, 0}},
		{fillCase{some, []bool{false, true, false, true}, one, 1, 0.5, 1, 3}, list(4, float32(9))}, {fillCase{some, []bool{true, false, false, false}, one, 2, 0.25, 1, 1}, []float32{1, 0.75, 0.75, 0.75}}, {fillCase{some, []bool{false, true, false, true}, one, 2, 0.25, 1, 1}, []float32{9, 9, 8.75, 9}}, {fillCase{some, even, one, 1, most, 1, 32}, []float32{1, 0, 3, 0}},
		{fillCase{[]float32{most, most}, []bool{true, true}, haar, 1, 0, 1, 0}, []float32{most, most}}, // the mean is infinite, but no number becomes it
	} {
		got, ok := c.fill()
		checkNumbers(t, fmt.Sprint("FillRounds of ", c.fillCase), got, ok, c.want)
	}
}

func anyKnown(r *rand.Rand, n int) []bool {
	known, share := make([]bool, n), r.Float64()
	for i := range known {
		known[i] = r.Float64() < share
	}
	known[r.IntN(n)] = true
	return known
}

// greatNumbers have sums that may be infinite.
func greatNumbers(r *rand.Rand, n int) []float32 {
	x := lightNumbers(r, n)
	for i := range x {
		x[i] *= 0x1p121
	}
	return x
}

func TestPromise8HolesAsTold(t *testing.T) {
	r := rand.New(rand.NewPCG(23, 7))
	failures := 0
	for range 4 {
		for levels := int64(1); levels <= 6; levels++ {
			for n := 1 << levels; n <= 128; n += (1 << levels) * (1 + n>>levels/4) {
				for _, x := range append(roughLists(r, n), greatNumbers(r, n)) {
					for _, p := range []impl.Pair{impl.HaarPair(), impl.FourPair(), anyPair(r, 2*(1+r.IntN(4)))} {
						c := fillCase{x, anyKnown(r, n), p, levels, float32(3 * r.Float64()), []float32{0, 1, float32(r.Float64())}[r.IntN(3)], []int64{0, 1, 2, 5, 32}[r.IntN(5)]}
						got, ok := c.fill()
						checkTold(t, fmt.Sprint("FillRounds of ", c), got, ok, c.told())
						failures += oneIf(!ok)
						for i, is := range c.known {
							if ok && is && bitsOf(got[i]) != bitsOf(x[i]) {
								t.Error("FillRounds of ", c, " changes what is known: ", got)
							}
						}
					}
				}
			}
		}
	}
	if failures < 50 {
		t.Error("only ", failures, " lists are not filled")
	}
}

func TestPromise8HolesThatAreNotFilled(t *testing.T) {
	most := number(0x7f7fffff)
	good := fillCase{[]float32{1, 2, 3, 4}, []bool{true, false, true, true}, impl.HaarPair(), 1, 1, 1, 1}
	check := func(change func(c *fillCase)) {
		t.Helper()
		for _, turns := range []int64{0, 1} {
			c := good
			c.turns = turns
			change(&c)
			got, ok := c.fill()
			checkNone(t, fmt.Sprint("FillRounds of ", c), ok, got)
		}
	}
	for _, x := range append(wrongLists(), []float32{1}, []float32{1, 2}, list(8, float32(1)), list(130, float32(1))) {
		check(func(c *fillCase) { c.x = x })
	}
	for _, x := range append(wrongLists(), []float32{1}, []float32{1, 2, 3}, list(127, float32(1)), list(130, float32(1))) {
		check(func(c *fillCase) { c.x, c.known = x, list(len(x), true) })
	}
	for _, wrong := range wrongNumbers() {
		check(func(c *fillCase) { c.x = []float32{1, wrong, 3, 4} }) // even where it is not known
	}
	for _, known := range [][]bool{nil, make([]bool, 4), list(3, true), list(5, true), list(8, true)} {
		check(func(c *fillCase) { c.known = known })
	}
	for _, p := range wrongPairs() {
		check(func(c *fillCase) { c.p = p })
	}
	for _, levels := range []int64{0, -1, 3, 6, 7, 62, 64, math.MinInt64, math.MaxInt64} {
		check(func(c *fillCase) { c.levels = levels })
	}
	for _, limit := range wrongLimits() {
		check(func(c *fillCase) { c.limit = limit })
	}
	for _, fade := range append(wrongLimits(), number(0x3f800001), 2, most) {
		check(func(c *fillCase) { c.fade = fade })
	}
	for _, turns := range []int64{-1, 33, math.MinInt64, math.MaxInt64} {
		check(func(c *fillCase) { c.turns = turns })
	}
	// The mean of what is known is infinite.
	check(func(c *fillCase) { c.x = []float32{most, 0, most, 0} })
	check(func(c *fillCase) { c.x = []float32{-most, 0, -most, 0} })
	// No ring is finite, though all is known.
	c := fillCase{[]float32{most, most}, []bool{true, true}, impl.HaarPair(), 1, 1, 1, 1}
	got, ok := c.fill()
	checkNone(t, fmt.Sprint("FillRounds of ", c), ok, got)
}
