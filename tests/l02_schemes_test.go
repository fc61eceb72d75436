package tests

import (
	"fmt"
	"math"
	"math/rand/v2"
	"testing"

	"loop.example/g01317/impl"
)

func TestPromise3SchemesAreAsTold(t *testing.T) {
	lines, nine := impl.LinesScheme(), impl.NineScheme()
	if seen(lines.Weights, lines.Scale) != "bf000000 3e800000 3f800000" {
		t.Error("LinesScheme: ", seen(lines.Weights, lines.Scale))
	}
	if seen(nine.Weights, nine.Scale) != "bfcb0673 bd5901ae 3f620676 3ee31355 3f93263d" {
		t.Error("NineScheme: ", seen(nine.Weights, nine.Scale))
	}
}

// wrongSchemes are schemes that are not valid.
func wrongSchemes() []impl.Scheme {
	all := []impl.Scheme{{}, {Scale: 1}, {Weights: []float32{}, Scale: 1}, {Weights: list(9, float32(1)), Scale: 1}, {Weights: []float32{1}}}
	for _, wrong := range append(wrongNumbers(), number(minusZeroBits), -1, number(0x80000001)) {
		all = append(all, impl.Scheme{Weights: []float32{1}, Scale: wrong})
	}
	for _, wrong := range wrongNumbers() {
		all = append(all, impl.Scheme{Weights: []float32{wrong, 1}, Scale: 1}, impl.Scheme{Weights: append(list(7, float32(1)), wrong), Scale: 1})
	}
	return all
}

func TestPromise3ValidSchemes(t *testing.T) {
	least, most := number(1), number(0x7f7fffff)
	for _, s := range []impl.Scheme{
		impl.LinesScheme(), impl.NineScheme(), {Weights: []float32{0}, Scale: 1}, {Weights: numbersOf(minusZeroBits), Scale: least},
		{Weights: list(8, most), Scale: most}, {Weights: list(8, -most), Scale: 1},
	} {
		if !impl.ValidScheme(s) {
			t.Error("ValidScheme is false for ", s)
		}
	}
	for _, s := range wrongSchemes() {
		if impl.ValidScheme(s) {
			t.Error("ValidScheme is true for ", s)
		}
	}
}

func TestPromise3SameSchemes(t *testing.T) {
	minus, nan, other := number(minusZeroBits), number(notANumberBits), number(0xffc12345)
	same := [][2]impl.Scheme{
		{impl.LinesScheme(), impl.LinesScheme()}, {{}, {Weights: []float32{}}}, {{Weights: []float32{nan}, Scale: nan}, {Weights: []float32{other}, Scale: other}},
		{{Weights: []float32{0, minus}, Scale: minus}, {Weights: []float32{0, minus}, Scale: minus}}, {{Weights: list(300, float32(2))}, {Weights: list(300, float32(2))}},
	}
	for _, c := range same {
		if !impl.SameScheme(c[0], c[1]) {
			t.Error("SameScheme is false for ", c)
		}
	}
	for _, c := range [][2]impl.Scheme{
		{impl.LinesScheme(), impl.NineScheme()}, {{Scale: 1}, {Scale: 2}}, {{Scale: 0}, {Scale: minus}}, {{Weights: []float32{0}}, {Weights: []float32{minus}}},
		{{Weights: []float32{1}}, {Weights: []float32{1, 1}}}, {{Weights: []float32{1, 2}}, {Weights: []float32{1, 3}}}, {{Weights: []float32{1}}, {}},
		{{Weights: []float32{nan}}, {Weights: []float32{1}}}, {{Weights: []float32{2, 1}}, {Weights: []float32{3, 1}}},
	} {
		if impl.SameScheme(c[0], c[1]) || impl.SameScheme(c[1], c[0]) {
			t.Error("SameScheme is true for ", c)
		}
	}
}

func TestPromise3ListsLiftedByHand(t *testing.T) {
	minus := number(minusZeroBits)
	double := impl.Scheme{Weights: []float32{1}, Scale: 2}
	second := impl.Scheme{Weights: []float32{0, 1}, Scale: 1}
	for _, c := range []struct {
		s               impl.Scheme
		list, low, high []float32
	}{
		{impl.LinesScheme(), []float32{1, 3, 2}, []float32{1.75, 2.75}, []float32{1.5}},
		{impl.LinesScheme(), []float32{7}, []float32{7}, nil}, {double, []float32{7}, []float32{7}, nil}, {double, []float32{minus}, []float32{minus}, nil},
		{double, []float32{1, 3}, []float32{2}, []float32{2.5}}, // 1 times 2, and (3 + 1 + 1) / 2
		{double, []float32{1, 3, 2}, []float32{2, 4}, []float32{3}},
		{second, []float32{1, 3, 2, 5}, []float32{1 + 3 + 3, 2 + 3 + 5}, []float32{3, 5}},
		{second, []float32{1, 3, 2, 5, 4}, []float32{7, 10, 4 + 5 + 5}, []float32{3, 5}},
		{impl.LinesScheme(), list(5, float32(2)), list(3, float32(2)), list(2, float32(0))},
		{impl.LinesScheme(), list(3, minus), list(2, float32(0)), list(1, float32(0))}, // -0 + -0.5 times -0 is +0
		{impl.Scheme{Weights: []float32{1}, Scale: 1}, list(3, minus), list(2, minus), list(1, minus)},
		{impl.Scheme{Weights: []float32{-1}, Scale: 1}, list(2, minus), list(1, minus), list(1, float32(0))},
	} {
		low, high, ok := impl.LiftOnce(c.s, c.list)
		checkNumbers(t, fmt.Sprint("evens of LiftOnce of ", c.list, " with ", c.s), low, ok, c.low)
		checkNumbers(t, fmt.Sprint("odds of LiftOnce of ", c.list, " with ", c.s), high, ok, c.high)
	}
	for _, c := range []struct {
		s               impl.Scheme
		low, high, list []float32
	}{
		{impl.LinesScheme(), []float32{1.75, 2.75}, []float32{1.5}, []float32{1, 3, 2}},
		{double, []float32{7}, nil, []float32{7}}, {double, []float32{2}, []float32{2.5}, []float32{1, 3}}, {second, []float32{7, 10}, []float32{3, 5}, []float32{1, 3, 2, 5}},
		{impl.Scheme{Weights: []float32{1}, Scale: 1}, list(1, minus), list(1, minus), []float32{minus, 0}}, // -0 - -0 is +0
		{impl.Scheme{Weights: []float32{-1}, Scale: 1}, list(1, minus), list(1, minus), []float32{minus, minus}},
	} {
		back, ok := impl.DropOnce(c.s, c.low, c.high)
		checkNumbers(t, fmt.Sprint("DropOnce of ", c.low, c.high, " with ", c.s), back, ok, c.list)
	}
}

// A product of a weight is rounded before it is added.
func TestPromise3EachStepIsRounded(t *testing.T) {
	s := impl.Scheme{Weights: []float32{0x1.001p0}, Scale: 1}
	_, high, ok := impl.LiftOnce(s, []float32{0x1.001p-1, -0x1.002p0})
	checkNumbers(t, "odds of LiftOnce whose products are rounded", high, ok, []float32{0})
	back, ok := impl.DropOnce(s, []float32{0x1.001p-1}, []float32{0x1.002p0})
	checkNumbers(t, "DropOnce whose products are rounded", back, ok, []float32{0x1.001p-1, 0})
}

func TestPromise3ListsLiftedAsTold(t *testing.T) {
	r := rand.New(rand.NewPCG(5, 2))
	for count := 1; count <= 128; count++ {
		for k := range 12 {
			s := anyScheme(r)
			x, y := middleNumbers(r, count), middleNumbers(r, count)
			if k < 4 {
				x, y = anyNumbers(r, count), anyNumbers(r, count)
			}
			if k == 5 {
				s.Scale = finitePositive(r)
			}
			wantLow, wantHigh := toldLiftOnce(s, x)
			low, high, ok := impl.LiftOnce(s, x)
			// It fails with both halves where a number of any of them is not finite.
			if !finite(wantLow) || !finite(wantHigh) {
				wantLow, wantHigh = wrongNumbers(), wrongNumbers()
			}
			checkTold(t, fmt.Sprint("evens of LiftOnce of ", x, " with ", s), low, ok, wantLow)
			checkTold(t, fmt.Sprint("odds of LiftOnce of ", x, " with ", s), high, ok, wantHigh)
			evens, odds := toldHalves(y)
			back, ok := impl.DropOnce(s, evens, odds)
			checkTold(t, fmt.Sprint("DropOnce of ", evens, odds, " with ", s), back, ok, toldDropOnce(s, evens, odds))
		}
	}
}

func finitePositive(r *rand.Rand) float32 { return float32(math.Abs(float64(finiteNumber(r)))) }

func TestPromise3ListsLiftedDeepAsTold(t *testing.T) {
	r := rand.New(rand.NewPCG(6, 2))
	for count := 1; count <= 128; count++ {
		for levels := int64(1); levels <= 6; levels++ {
			for k := range 3 {
				s, x := anyScheme(r), middleNumbers(r, count)
				if k == 0 {
					x = anyNumbers(r, count)
				}
				want := toldBands(x, levels, func(x []float32) ([]float32, []float32) { return toldLiftOnce(s, x) })
				bands, ok := impl.LiftDeep(s, x, levels)
				checkToldBands(t, fmt.Sprint("LiftDeep of ", x, " with ", s, levels), bands, ok, want)
				split := toldBands(x, levels, toldHalves[float32])
				back, ok := impl.DropDeep(s, split)
				checkTold(t, fmt.Sprint("DropDeep of ", split, " with ", s), back, ok, toldDropDeep(s, split))
			}
		}
	}
}

func checkNear(t *testing.T, what string, got []float32, ok bool, want []float32, near float64) {
	t.Helper()
	if !ok || len(got) != len(want) {
		t.Errorf("%s: got %v, %v, want %v", what, got, ok, want)
		return
	}
	for i, x := range want {
		if !(math.Abs(float64(got[i])-float64(x)) <= near) {
			t.Errorf("%s: got %v at %d, want %v", what, got[i], i, x)
		}
	}
}

func TestPromise3ListsAreUndoneNearly(t *testing.T) {
	r := rand.New(rand.NewPCG(7, 2))
	for count := 1; count <= 128; count++ {
		x := make([]float32, count)
		for i := range x {
			x[i] = float32(200*r.Float64() - 100)
		}
		for _, s := range []impl.Scheme{impl.LinesScheme(), impl.NineScheme()} {
			low, high, ok := impl.LiftOnce(s, x)
			if !ok {
				t.Error("LiftOnce fails for ", x)
			}
			back, ok := impl.DropOnce(s, low, high)
			checkNear(t, "DropOnce of LiftOnce", back, ok, x, 0.001)
			for levels := int64(1); levels <= 6; levels++ {
				bands, ok := impl.LiftDeep(s, x, levels)
				if !ok || !impl.AreBands(bands) {
					t.Error("LiftDeep fails for ", x)
				}
				back, ok := impl.DropDeep(s, bands)
				checkNear(t, "DropDeep of LiftDeep", back, ok, x, 0.001)
			}
		}
	}
}

func TestPromise3EvenListsHaveNoRipples(t *testing.T) {
	for _, n := range []int{1, 2, 5, 127, 128} {
		bands, ok := impl.LiftDeep(impl.LinesScheme(), list(n, float32(-7.25)), 6)
		if !ok {
			t.Fatal("LiftDeep fails for an even list with the length ", n)
		}
		last := len(bands) - 1
		for _, band := range bands[:last] {
			checkNumbers(t, "ripples of an even list", band, true, make([]float32, len(band)))
		}
		checkNumbers(t, "what is left of an even list", bands[last], true, list(len(bands[last]), float32(-7.25)))
	}
}

// wrongLists are lists of numbers that no function of chapter 2 takes.
func wrongLists() [][]float32 {
	all := [][]float32{nil, {}, list(129, float32(0)), list(1000, float32(1))}
	for _, wrong := range wrongNumbers() {
		all = append(all, []float32{wrong}, []float32{wrong, 1, 1}, []float32{1, 1, 1, wrong}, append(list(127, float32(0)), wrong))
	}
	return all
}

func TestPromise3ListsThatAreNotLifted(t *testing.T) {
	check := func(s impl.Scheme, x []float32, levels int64) {
		t.Helper()
		if bands, ok := impl.LiftDeep(s, x, levels); ok || len(bands) != 0 {
			t.Error("LiftDeep of ", x, " with ", s, levels, ": ", bands, ok)
		}
		low, high, ok := impl.LiftOnce(s, x)
		if levels == 1 && (ok || len(low)+len(high) != 0) {
			t.Error("LiftOnce of ", x, " with ", s, ": ", low, high, ok)
		}
	}
	for _, x := range wrongLists() {
		check(impl.NineScheme(), x, 1)
	}
	for _, s := range wrongSchemes() {
		check(s, []float32{1}, 1)
		check(s, []float32{1, 2, 3}, 1)
	}
	for _, levels := range []int64{0, -1, 7, math.MinInt64, math.MaxInt64} {
		check(impl.LinesScheme(), []float32{1}, levels)
		check(impl.LinesScheme(), []float32{1, 2, 3}, levels)
	}
	most := number(0x7f7fffff)
	check(impl.LinesScheme(), []float32{most, 0, most}, 1)                                 // the sum of both evens is infinite
	check(impl.Scheme{Weights: []float32{0}, Scale: 2}, []float32{most, 0}, 1)             // an even that is scaled
	check(impl.Scheme{Weights: []float32{0}, Scale: 0.5}, []float32{0, most}, 1)           // an odd that is scaled
	check(impl.Scheme{Weights: []float32{0}, Scale: 1.5}, []float32{most / 2, 0, 0, 0}, 2) // only the second level is infinite
}

func TestPromise3HalvesOfListsThatAreNotDropped(t *testing.T) {
	most := number(0x7f7fffff)
	zeros := func(n int) []float32 { return make([]float32, n) }
	check := func(s impl.Scheme, low, high []float32) {
		t.Helper()
		if back, ok := impl.DropOnce(s, low, high); ok || len(back) != 0 {
			t.Error("DropOnce of ", low, high, " with ", s, ": ", back, ok)
		}
		if back, ok := impl.DropDeep(s, [][]float32{high, low}); ok || len(back) != 0 {
			t.Error("DropDeep of ", high, low, " with ", s, ": ", back, ok)
		}
	}
	for _, c := range [][2][]float32{
		{nil, nil}, {{}, {1}}, {{1}, {1, 2}}, {{1, 2}, nil}, {{1, 2, 3}, {1}}, {zeros(65), zeros(64)}, {zeros(65), zeros(65)}, {zeros(64), zeros(65)}, {zeros(64), zeros(62)}, {zeros(128), nil},
		{{most, most}, {most}}, {{most, most}, {-most}},
	} {
		check(impl.LinesScheme(), c[0], c[1])
	}
	for _, wrong := range wrongNumbers() {
		check(impl.LinesScheme(), []float32{wrong}, []float32{1})
		check(impl.LinesScheme(), []float32{1}, []float32{wrong})
		if back, ok := impl.DropOnce(impl.LinesScheme(), []float32{wrong}, nil); ok || len(back) != 0 {
			t.Error("DropOnce of ", wrong, ": ", back, ok)
		}
	}
	for _, s := range wrongSchemes() {
		check(s, []float32{1}, []float32{1})
		if back, ok := impl.DropOnce(s, []float32{1}, nil); ok || len(back) != 0 {
			t.Error("DropOnce of one number with ", s, ": ", back, ok)
		}
		if back, ok := impl.DropDeep(s, [][]float32{{1}}); ok || len(back) != 0 {
			t.Error("DropDeep of one number with ", s, ": ", back, ok)
		}
	}
	check(impl.Scheme{Weights: []float32{0}, Scale: 0.5}, []float32{most}, []float32{0})
	check(impl.Scheme{Weights: []float32{0}, Scale: 2}, []float32{0}, []float32{most})
	back, ok := impl.DropOnce(impl.LinesScheme(), zeros(64), zeros(64))
	checkNumbers(t, "DropOnce of the longest halves", back, ok, zeros(128))
	back, ok = impl.DropOnce(impl.Scheme{Weights: []float32{0}, Scale: 0.5}, []float32{most}, nil)
	checkNumbers(t, "DropOnce of one number, which is not scaled", back, ok, []float32{most})
}
