package tests

import (
	"fmt"
	"math"
	"math/rand/v2"
	"testing"

	"loop.example/g01317/impl"
)

func lineLengths() []int { return []int{1, 3, 7, 15, 31, 63} }

// wrongLines are lists that are no lines.
func wrongLines() [][]float32 {
	all := [][]float32{nil, {}}
	for n := 2; n <= 130; n++ {
		if n != 3 && n != 7 && n != 15 && n != 31 && n != 63 {
			all = append(all, list(n, float32(1)))
		}
	}
	for _, wrong := range wrongNumbers() {
		all = append(all, []float32{wrong}, []float32{wrong, 1, 1}, []float32{1, wrong, 1}, append(list(62, float32(0)), wrong))
	}
	return all
}

// wrongSteps are those that are not finite, or not greater than 0.
func wrongSteps() []float32 { return append(wrongLimits(), 0, number(minusZeroBits)) }

// manySteps have squares of all kinds, some of which are 0 or infinite.
func manySteps(r *rand.Rand) []float32 {
	return []float32{1, 0.5, 0.015625, 0.1, float32(r.Float64() + 0.001), finitePositive(r), 1e-30, 1e20, 1e-20, 1e-22}
}

func TestPromise8ResidualsByHand(t *testing.T) {
	minus, most, least := number(minusZeroBits), number(0x7f7fffff), number(1)
	for _, c := range []struct {
		u, f []float32
		step float32
		want []float32
	}{
		{[]float32{1}, []float32{5}, 1, []float32{3}}, {[]float32{1}, []float32{5}, 0.5, []float32{-3}}, {[]float32{1, 2, 4}, []float32{0, 0, 0}, 1, []float32{0, 1, -6}}, {[]float32{1, 2, 4}, []float32{10, 20, 30}, 2, []float32{10, 20.25, 28.5}}, {[]float32{0, 0, 0, 0, 0, 0, 0}, []float32{1, 2, 3, 4, 5, 6, 7}, 3, []float32{1, 2, 3, 4, 5, 6, 7}}, {list(63, float32(0)), list(63, float32(2)), 1, list(63, float32(2))},
		{[]float32{minus}, []float32{0}, 1, []float32{0}}, {[]float32{minus}, []float32{minus}, 1, []float32{0}}, {[]float32{0}, []float32{minus}, 1, []float32{minus}}, {[]float32{5}, []float32{3}, 1e20, []float32{3}}, {[]float32{5}, []float32{minus}, 1e20, []float32{minus}}, {[]float32{-5}, []float32{minus}, 1e20, []float32{0}}, // the square is infinite
		{[]float32{0, 0, 0}, []float32{most, -most, least}, 1, []float32{most, -most, least}}, {[]float32{0x1p126, 0, 0}, []float32{0, 0, 0}, 1, []float32{-0x1p127, 0x1p126, 0}}, {[]float32{1, 0x1p-26, 0}, []float32{0, 0, 0}, 1, []float32{-2, 1, 0x1p-26}}, {[]float32{0x1p-26, 1, 0x1p-26}, []float32{0, 0, 0}, 1, []float32{1, -2, 1}}, // each operation is rounded
	} {
		got, ok := impl.ResidualOf(c.u, c.f, c.step)
		checkNumbers(t, fmt.Sprint("ResidualOf ", c.u, c.f, c.step), got, ok, c.want)
	}
}

func TestPromise8SmoothingsByHand(t *testing.T) {
	minus, most := number(minusZeroBits), number(0x7f7fffff)
	for _, c := range []struct {
		u, f  []float32
		step  float32
		times int64
		want  []float32
	}{
		{[]float32{0, 0, 0}, []float32{2, 2, 2}, 1, 1, []float32{1, 1.5, 1.75}}, {[]float32{0, 0, 0}, []float32{2, 2, 2}, 1, 2, []float32{1.75, 2.75, 2.375}}, {[]float32{4, 8, 16}, []float32{0, 0, 0}, 1, 1, []float32{4, 10, 5}}, {[]float32{4, 8, 16}, []float32{1, 1, 1}, 2, 1, []float32{6, 13, 8.5}}, {[]float32{4, 8, 16}, []float32{1, 1, 1}, 2, 0, []float32{4, 8, 16}},
		{[]float32{9}, []float32{2}, 1, 1, []float32{1}}, {[]float32{9}, []float32{2}, 3, 32, []float32{9}}, {[]float32{9}, []float32{2}, 1, 0, []float32{9}}, {[]float32{minus}, []float32{minus}, 1, 0, []float32{minus}}, {[]float32{minus}, []float32{minus}, 1, 1, []float32{0}}, {list(3, minus), list(3, minus), 1, 1, []float32{0, 0, 0}}, {append(list(6, minus), 1), append([]float32{-4}, list(6, minus)...), 1, 1, []float32{-2, -1, -0.5, -0.25, -0.125, 0.4375, 0.21875}},
		{[]float32{0, 0, 0}, []float32{8, 0, 0}, 1, 1, []float32{4, 2, 1}}, {[]float32{0, 0, 0}, []float32{0, 0, 8}, 1, 1, []float32{0, 0, 4}}, {[]float32{0, 0, 0}, []float32{0, 0, 8}, 1, 32, []float32{2, 4, 6}}, {[]float32{5}, []float32{1}, 1e-30, 1, []float32{0}}, // the square is nothing
		{[]float32{most, 0, 0}, []float32{0, 0, 0}, 1, 1, []float32{0, 0, 0}}, {[]float32{0, 0, most}, []float32{0, 0, 0}, 1, 1, []float32{0, most / 2, most / 4}},
	} {
		got, ok := impl.SmoothLine(c.u, c.f, c.step, c.times)
		checkNumbers(t, fmt.Sprint("SmoothLine of ", c.u, c.f, c.step, c.times), got, ok, c.want)
	}
}

func TestPromise8CoarseAndFineLinesByHand(t *testing.T) {
	minus, most, least := number(minusZeroBits), number(0x7f7fffff), number(1)
	for _, c := range []struct{ line, want []float32 }{
		{[]float32{4, 8, 4}, []float32{6}}, {[]float32{4, 8, 12}, []float32{8}}, {[]float32{1, 2, 4, 8, 16, 32, 64}, []float32{2.25, 9, 36}}, {list(63, float32(3)), list(31, float32(3))}, {list(3, minus), []float32{minus}}, {[]float32{0, minus, minus}, []float32{0}}, {list(63, most), list(31, most)}, {list(15, -most), list(7, -most)}, {[]float32{least, least, least}, []float32{0}}, {numbersOf(2, 1, 2), []float32{0}}, {numbersOf(3, 3, 3), numbersOf(4)}, {[]float32{0x1p24, 2, 4}, []float32{0x1p22 + 2}}, {[]float32{0x1p26, 2, 4}, []float32{0x1p24}}, {[]float32{4, 2, 0x1p26}, []float32{0x1p24 + 2}},
	} {
		got, ok := impl.CoarsenLine(c.line)
		checkNumbers(t, fmt.Sprint("CoarsenLine of ", c.line), got, ok, c.want)
	}
	for _, c := range []struct{ line, want []float32 }{
		{[]float32{4}, []float32{2, 4, 2}}, {[]float32{4, 8, 2}, []float32{2, 4, 6, 8, 5, 2, 1}}, {[]float32{minus}, []float32{0, minus, 0}}, {list(3, minus), []float32{0, minus, minus, minus, minus, minus, 0}}, {[]float32{most}, []float32{most / 2, most, most / 2}}, {[]float32{most, -most, most}, []float32{most / 2, most, 0, -most, 0, most, most / 2}}, {[]float32{least}, []float32{0, least, 0}}, {numbersOf(1, 2, 5), numbersOf(0, 1, 2, 2, 4, 5, 2)},
	} {
		got, ok := impl.RefineLine(c.line)
		checkNumbers(t, fmt.Sprint("RefineLine of ", c.line), got, ok, c.want)
	}
	for _, line := range append(wrongLines(), list(63, float32(0)), []float32{most, most, 0}, []float32{0, -most, -0x1p103}) {
		got, ok := impl.RefineLine(line)
		checkNone(t, fmt.Sprint("RefineLine of ", line), ok, got)
	}
	for _, line := range append(wrongLines(), []float32{0}, []float32{most}) {
		got, ok := impl.CoarsenLine(line)
		checkNone(t, fmt.Sprint("CoarsenLine of ", line), ok, got)
	}
}

func TestPromise8LinesAsTold(t *testing.T) {
	r := rand.New(rand.NewPCG(11, 7))
	for range 10 {
		for _, n := range lineLengths() {
			for k, f := range roughLists(r, n) {
				u := roughLists(r, n)[k]
				for _, step := range manySteps(r) {
					what := fmt.Sprint(u, f, step)
					got, ok := impl.ResidualOf(u, f, step)
					checkTold(t, "ResidualOf "+what, got, ok, toldResidual(u, f, step))
					for _, times := range []int64{0, 1, 2, r.Int64N(33), 32} {
						got, ok = impl.SmoothLine(u, f, step, times)
						checkTold(t, fmt.Sprint("SmoothLine of ", what, times), got, ok, toldSmooth(u, f, step, times))
					}
				}
				if n > 1 {
					got, ok := impl.CoarsenLine(u)
					checkTold(t, fmt.Sprint("CoarsenLine of ", u), got, ok, toldCoarseLine(u))
				}
				if n < 63 {
					got, ok := impl.RefineLine(u)
					checkTold(t, fmt.Sprint("RefineLine of ", u), got, ok, toldFineLine(u))
				}
			}
		}
	}
}

func TestPromise8CyclesByHand(t *testing.T) {
	minus, least := number(minusZeroBits), number(1)
	for _, c := range []struct {
		u, f           []float32
		step           float32
		before, behind int64
		want           []float32
	}{
		{[]float32{9}, []float32{2}, 1, 1, 1, []float32{1}}, {[]float32{9}, []float32{2}, 1, 0, 0, []float32{1}}, {[]float32{9}, []float32{2}, 3, 8, 8, []float32{9}}, {[]float32{0}, []float32{minus}, 1, 2, 2, []float32{minus}}, {[]float32{0}, []float32{least}, 1, 2, 2, []float32{0}}, {[]float32{0}, []float32{1}, 1e-30, 2, 2, []float32{0}},
		{[]float32{0, 0, 0}, []float32{0, 4, 0}, 1, 0, 0, []float32{2, 4, 2}}, {[]float32{0, 0, 0}, []float32{4, 0, 4}, 1, 0, 0, []float32{2, 4, 2}}, {[]float32{0, 0, 0}, []float32{4, 0, 4}, 1, 0, 1, []float32{4, 3, 3.5}}, {[]float32{1, 2, 1}, []float32{0, 2, 0}, 1, 0, 0, []float32{1, 2, 1}}, {[]float32{0, 0, 0}, []float32{0, 1, 0}, 2, 0, 0, []float32{2, 4, 2}}, {[]float32{0, 0, 0}, []float32{4, 0, 4}, 1, 1, 0, []float32{3.5, 4, 4}},
	} {
		got, ok := impl.CycleOnce(c.u, c.f, c.step, c.before, c.behind)
		checkNumbers(t, fmt.Sprint("CycleOnce of ", c.u, c.f, c.step, c.before, c.behind), got, ok, c.want)
	}
}

func TestPromise8CyclesAsTold(t *testing.T) {
	r := rand.New(rand.NewPCG(12, 7))
	failures := 0
	for range 10 {
		for _, n := range lineLengths() {
			for k, f := range roughLists(r, n) {
				u := roughLists(r, n)[k]
				for _, step := range append(manySteps(r), 0x1p63, 0x1p126, 0x1p127, 0x1p64) {
					before, behind := r.Int64N(9), r.Int64N(9)
					if r.IntN(4) == 0 {
						before, behind = 8*r.Int64N(2), 8*r.Int64N(2)
					}
					got, ok := impl.CycleOnce(u, f, step, before, behind)
					checkTold(t, fmt.Sprint("CycleOnce of ", u, f, step, before, behind), got, ok, toldCycle(u, f, step, before, behind))
					failures += oneIf(!ok)
				}
			}
		}
	}
	if failures < 100 {
		t.Error("only ", failures, " cycles fail")
	}
}

// Steps are doubled on the way, and must stay finite, and so must their squares.
func TestPromise8CyclesOfGreatNumbers(t *testing.T) {
	most := number(0x7f7fffff)
	for _, times := range []int64{0, 1, 8} {
		for _, c := range []struct {
			u, f []float32
			step float32
		}{
			{make([]float32, 3), make([]float32, 3), 0x1p127}, {make([]float32, 3), make([]float32, 3), 0x1p63}, {make([]float32, 7), make([]float32, 7), 0x1p62}, {make([]float32, 63), make([]float32, 63), 0x1p59}, {[]float32{1}, []float32{1}, 0x1p64}, {[]float32{1}, []float32{0}, 0x1p64}, {[]float32{1}, []float32{most}, 2}, {[]float32{1, 1, 1}, []float32{0, 0, 0}, 1e-30}, {[]float32{0, 0, 0}, list(3, most), 2}, {list(3, most), list(3, -most), 1},
		} {
			got, ok := impl.CycleOnce(c.u, c.f, c.step, times, times)
			checkNone(t, fmt.Sprint("CycleOnce of ", c.u, c.f, c.step, times), ok, got)
		}
		for _, n := range lineLengths() {
			step := float32(0x1p64) / float32(n+1)
			got, ok := impl.CycleOnce(make([]float32, n), make([]float32, n), step, times, times)
			checkNumbers(t, fmt.Sprint("CycleOnce of zeros with ", step), got, ok, make([]float32, n))
		}
	}
}

func TestPromise8LinesThatAreNotTold(t *testing.T) {
	check := func(u, f []float32, step float32, times int64) {
		t.Helper()
		what := fmt.Sprint(" of ", u, f, step, times)
		left, ok := impl.ResidualOf(u, f, step)
		if times == 1 {
			checkNone(t, "ResidualOf"+what, ok, left)
		}
		line, ok := impl.SmoothLine(u, f, step, times)
		checkNone(t, "SmoothLine"+what, ok, line)
		line, ok = impl.CycleOnce(u, f, step, times, 1)
		checkNone(t, "CycleOnce"+what, ok, line)
		line, ok = impl.CycleOnce(u, f, step, 1, times)
		checkNone(t, "CycleOnce"+what, ok, line)
	}
	one, three := []float32{1}, []float32{1, 2, 3}
	for _, wrong := range wrongLines() {
		for times := range int64(2) {
			check(wrong, wrong, 1, times)
			check(wrong, list(len(wrong), float32(1)), 1, times)
			check(list(len(wrong), float32(1)), wrong, 1, times)
			check(wrong, one, 1, times)
			check(three, wrong, 1, times)
		}
	}
	for _, n := range lineLengths() {
		for _, m := range lineLengths() {
			if n != m {
				check(list(n, float32(1)), list(m, float32(1)), 1, 1)
			}
		}
		for _, step := range wrongSteps() {
			check(list(n, float32(1)), list(n, float32(1)), step, 1)
			check(make([]float32, n), make([]float32, n), step, 1)
		}
	}
	for _, times := range []int64{-1, 33, 64, math.MinInt64, math.MaxInt64} {
		check(one, one, 1, times)
		check(three, three, 1, times)
	}
	for _, times := range []int64{-1, 9, 32, math.MinInt64, math.MaxInt64} {
		for _, x := range [][]float32{one, three} {
			line, ok := impl.CycleOnce(x, x, 1, times, 0)
			checkNone(t, fmt.Sprint("CycleOnce before ", times), ok, line)
			line, ok = impl.CycleOnce(x, x, 1, 0, times)
			checkNone(t, fmt.Sprint("CycleOnce behind ", times), ok, line)
		}
	}
}

func TestPromise8SolvedByCyclesByHand(t *testing.T) {
	most, minus := number(0x7f7fffff), number(minusZeroBits)
	for _, c := range []struct {
		f          []float32
		step, near float32
		most       int64
		want       []float32
		made       int64
	}{
		{[]float32{2}, 1, 0, 3, []float32{1}, 1}, {[]float32{2}, 1, 0, 1, []float32{1}, 1}, {[]float32{2}, 1, minus, 32, []float32{1}, 1}, {[]float32{0}, 1, 0, 1, []float32{0}, 1}, {[]float32{minus}, 1, 0, 1, []float32{minus}, 1}, {list(63, float32(0)), 0.5, 0, 32, list(63, float32(0)), 1}, {[]float32{5}, 1, 100, 32, []float32{2.5}, 1}, // even what is near before the first cycle
		{[]float32{number(1)}, 1, number(1), 1, []float32{0}, 1}, {[]float32{most}, 1, 0, 1, []float32{most / 2}, 1}, {[]float32{0, 8, 0}, 1, 0.5, 32, []float32{4, 8, 4}, 1},
	} {
		got, made, ok := impl.SolveCycles(c.f, c.step, c.near, c.most)
		what := fmt.Sprint("SolveCycles of ", c.f, c.step, c.near, c.most)
		checkNumbers(t, what, got, ok, c.want)
		checkCount(t, what, made, ok, c.made)
	}
	for _, c := range []struct {
		f          []float32
		step, near float32
		most       int64
	}{
		{[]float32{2}, 1, 0, 0}, {[]float32{2}, 1, 0, -1}, {[]float32{2}, 1, 0, 33}, {[]float32{2}, 1, 0, math.MinInt64}, {[]float32{2}, 1, 0, math.MaxInt64}, {[]float32{0.1, 0.3, 0.7}, 0.1, 0, 1}, {[]float32{number(1)}, 1, 0, 32}, {[]float32{1}, 1e-30, 1, 32}, {[]float32{most}, 2, most, 32}, {list(3, most), 1, most, 32}, {list(63, float32(1)), 1e20, most, 1},
	} {
		got, made, ok := impl.SolveCycles(c.f, c.step, c.near, c.most)
		checkNone(t, fmt.Sprint("SolveCycles of ", c.f, c.step, c.near, c.most), ok, got, made)
	}
	for _, near := range wrongLimits() {
		got, made, ok := impl.SolveCycles([]float32{2}, 1, near, 32)
		checkNone(t, fmt.Sprint("SolveCycles near ", near), ok, got, made)
	}
}

// Cycles are made until what is left is near enough, and this is told exactly.
func TestPromise8SolvedByCyclesAsTold(t *testing.T) {
	r := rand.New(rand.NewPCG(13, 7))
	never, later := 0, 0
	for range 10 {
		for _, n := range lineLengths() {
			for _, f := range roughLists(r, n) {
				for _, step := range manySteps(r) {
					for _, near := range []float32{0, 1e-5, 0.01, 1, finitePositive(r)} {
						most := 1 + r.Int64N(32)
						want, wantMade := toldCycles(f, step, near, most)
						got, made, ok := impl.SolveCycles(f, step, near, most)
						what := fmt.Sprint("SolveCycles of ", f, step, near, most)
						if wantMade == 0 {
							never++
							checkNone(t, what, ok, got, made)
							continue
						}
						later += oneIf(made > 1)
						checkNumbers(t, what, got, ok, want)
						checkCount(t, what, made, ok, wantMade)
					}
				}
			}
		}
	}
	if never < 100 || later < 100 {
		t.Error("only ", never, " lines are never near, and ", later, " later than at once")
	}
}

// As many cycles as are made are enough, one less are not, and what is left at
// last is a limit that is reached exactly.
func TestPromise8CyclesUpToLimits(t *testing.T) {
	r := rand.New(rand.NewPCG(14, 7))
	for range 20 {
		for _, n := range lineLengths()[2:] {
			f := lightNumbers(r, n)
			line, made, ok := impl.SolveCycles(f, 1, 0.05, 32)
			left, _ := impl.ResidualOf(line, f, 1)
			if !ok || made < 2 {
				t.Error("SolveCycles of ", f, ": ", line, made, ok)
				continue
			}
			most := float32(0)
			for _, x := range left {
				most = max(most, size32(x))
			}
			again, count, ok := impl.SolveCycles(f, 1, most, made)
			checkNumbers(t, "SolveCycles with as many cycles as are made", again, ok, line)
			checkCount(t, "SolveCycles with as many cycles as are made", count, ok, made)
			again, count, ok = impl.SolveCycles(f, 1, most, made-1)
			checkNone(t, "SolveCycles with one cycle less", ok, again, count)
			again, count, ok = impl.SolveCycles(f, 1, math.Nextafter32(most, 0), made)
			checkNone(t, "SolveCycles nearer than it comes", ok, again, count)
		}
	}
}

func TestPromise8SolvedLinesByHand(t *testing.T) {
	minus, most := number(minusZeroBits), number(0x7f7fffff)
	for _, c := range []struct {
		f    []float32
		step float32
		want []float32
	}{
		{[]float32{2}, 1, []float32{1}}, {[]float32{2}, 3, []float32{9}}, {[]float32{minus}, 1, []float32{minus}}, {[]float32{0}, 1, []float32{0}}, {[]float32{most}, 1, []float32{most / 2}}, {[]float32{5}, 1e-30, []float32{0}}, {[]float32{-5}, 1e-30, []float32{minus}}, {list(63, float32(0)), 1, list(63, float32(0))}, {list(3, minus), 1, numbersOf(minusZeroBits, minusZeroBits, minusZeroBits)},
		{[]float32{4, 0, 0}, 1, numbersOf(0x40400000, 0x40000000, 0x3f800001)}, {[]float32{2, 0, 0}, 0.5, numbersOf(0x3ec00000, 0x3e800000, 0x3e000001)}, {numbersOf(0, 0, 0x3f2aaaab), 1, numbersOf(0x3e2aaaac, 0x3eaaaaac, 0x3f000001)},
	} {
		got, ok := impl.SolveLine(c.f, c.step)
		checkNumbers(t, fmt.Sprint("SolveLine of ", c.f, c.step), got, ok, c.want)
	}
}

func TestPromise8SolvedLinesAsTold(t *testing.T) {
	r := rand.New(rand.NewPCG(15, 7))
	for range 20 {
		for _, n := range lineLengths() {
			for _, f := range roughLists(r, n) {
				for _, step := range manySteps(r) {
					got, ok := impl.SolveLine(f, step)
					checkTold(t, fmt.Sprint("SolveLine of ", f, step), got, ok, toldSolve(f, step))
				}
			}
		}
	}
	most := number(0x7f7fffff)
	for _, f := range append(wrongLines(), []float32{most, most, most}, []float32{0, most, 0}, append(list(62, float32(0)), -most)) {
		got, ok := impl.SolveLine(f, 2)
		checkNone(t, fmt.Sprint("SolveLine of ", f), ok, got)
	}
	for _, step := range append(wrongSteps(), 0x1p64, most) {
		for _, f := range [][]float32{{1}, {1, 2, 3}, make([]float32, 63)} {
			got, ok := impl.SolveLine(f, step)
			checkNone(t, fmt.Sprint("SolveLine of ", f, step), ok, got)
		}
	}
}

// What is solved leaves nothing, nearly, whether at once or by cycles, and both
// come to nearly the same line.
func TestPromise8SolvedLinesLeaveNothing(t *testing.T) {
	r := rand.New(rand.NewPCG(16, 7))
	for range 50 {
		for _, n := range lineLengths() {
			f := lightNumbers(r, n)
			line, one := impl.SolveLine(f, 1)
			left, two := impl.ResidualOf(line, f, 1)
			checkNear(t, fmt.Sprint("ResidualOf SolveLine of ", f), left, one && two, make([]float32, n), 0.02)
			near, made, three := impl.SolveCycles(f, 1, 0.02, 32)
			checkNear(t, fmt.Sprint("SolveCycles of ", f, made), near, three, line, 5)
			left, two = impl.ResidualOf(near, f, 1)
			checkNear(t, fmt.Sprint("ResidualOf SolveCycles of ", f, made), left, two, make([]float32, n), 0.02)
		}
	}
}

func TestPromise8SharedLines(t *testing.T) {
	r := rand.New(rand.NewPCG(17, 7))
	for count := range 9 {
		for workers := int64(1); workers <= 8; workers++ {
			many, want := [][]float32{}, [][]float32{}
			for range count {
				f := lightNumbers(r, lineLengths()[r.IntN(6)])
				many, want = append(many, f), append(want, toldSolve(f, 0.25))
			}
			got, ok := impl.LinesShared(many, 0.25, workers)
			if !ok || len(got) != count || seen(got) != seen(want) {
				t.Error("LinesShared of ", many, workers, ": ", got, ok, ", want ", want)
			}
		}
	}
}

func TestPromise8SharedLinesThatAreNotTold(t *testing.T) {
	good, most := []float32{1, 2, 3}, number(0x7f7fffff)
	check := func(many [][]float32, step float32, workers int64) {
		t.Helper()
		got, ok := impl.LinesShared(many, step, workers)
		checkNone(t, fmt.Sprint("LinesShared of ", len(many), " lines with ", step, workers), ok, got)
	}
	for _, workers := range []int64{0, -1, 9, 1 << 40, math.MinInt64, math.MaxInt64} {
		check([][]float32{good}, 1, workers)
		check(nil, 1, workers)
	}
	for _, step := range wrongSteps() {
		check([][]float32{good}, step, 1)
		check(nil, step, 1)
	}
	for _, wrong := range append(wrongLines(), list(3, most)) {
		check([][]float32{wrong}, 2, 2)
		check([][]float32{good, wrong}, 2, 1)
		check([][]float32{wrong, good, good}, 2, 8)
		check(append(list(7, good), wrong), 2, 3)
	}
	check(list(9, good), 1, 1)
	check(list(1000, good), 1, 8)
}
