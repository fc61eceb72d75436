package tests

import (
	"fmt"
	"math"
	"math/rand/v2"
	"testing"

	"loop.example/g01317/impl"
)

// bandsOf makes bands of zeros: the first number tells how many Coarse has, and
// the others how many Details have.
func bandsOf(coarse int, details ...int) impl.Bands {
	return impl.Bands{Coarse: make([]float32, coarse), Details: zeroBands(details...)}
}

// goodBands are bands of all lengths, with numbers of a middle size and with any
// finite ones.
func goodBands(r *rand.Rand) []impl.Bands {
	all := []impl.Bands{}
	for _, make := range []func(*rand.Rand, int) []float32{middleNumbers, anyNumbers} {
		for levels := 1; levels <= 6; levels++ {
			for last := 1; last<<levels <= 128; last++ {
				b := impl.Bands{Coarse: make(r, last)}
				for level := levels - 1; level >= 0; level-- {
					b.Details = append(b.Details, make(r, last<<level))
				}
				all = append(all, b)
			}
		}
	}
	return all
}

// falseBands are bands that are not valid.
func falseBands() []impl.Bands {
	all := []impl.Bands{
		{}, {Coarse: []float32{1}}, {Coarse: []float32{1}, Details: [][]float32{}}, {Coarse: nil, Details: [][]float32{nil}}, {Details: [][]float32{{1}}},
		bandsOf(0, 0), bandsOf(1, 0), bandsOf(0, 1), bandsOf(2, 1), bandsOf(1, 2), bandsOf(65, 65), bandsOf(128, 128), bandsOf(64, 65), bandsOf(1, 3, 1), bandsOf(1, 1, 1), bandsOf(1, 1, 2), bandsOf(2, 2, 1),
		bandsOf(2, 4, 2, 1), bandsOf(1, 0, 0), bandsOf(0, 2, 1), bandsOf(0, 1, 0), bandsOf(0, 0, 0), bandsOf(33, 66, 33), bandsOf(1, 4, 1), bandsOf(1, 5, 2, 1), bandsOf(1, 64, 32, 16, 8, 4, 2), bandsOf(1, 64, 32, 16, 8, 4, 4),
		bandsOf(1, 128, 64, 32, 16, 8, 4, 2), bandsOf(1, 64, 32, 16, 8, 4, 2, 1), bandsOf(0, 64, 32, 16, 8, 4, 2, 1), bandsOf(1, list(2000, 1)...), bandsOf(2, 128, 64, 32, 16, 8, 4), bandsOf(1, 2, 1, 1),
	}
	for _, wrong := range wrongNumbers() {
		all = append(all, impl.Bands{Coarse: []float32{wrong}, Details: [][]float32{{1}}}, impl.Bands{Coarse: []float32{1}, Details: [][]float32{{wrong}}}, impl.Bands{Coarse: []float32{1}, Details: [][]float32{{1, 1}, {wrong}}},
			impl.Bands{Coarse: []float32{1, wrong}, Details: [][]float32{{1, 1}}}, impl.Bands{Coarse: []float32{1}, Details: [][]float32{{1, wrong}, {1}}})
	}
	return all
}

func bandsSeen(b impl.Bands) string { return seen(b.Coarse, "|", b.Details) }

func checkBands(t *testing.T, what string, got impl.Bands, ok bool, want impl.Bands) {
	t.Helper()
	if !ok || bandsSeen(got) != bandsSeen(want) {
		t.Errorf("%s: got %v, %v, want %v", what, got, ok, want)
	}
}

func checkNoBands(t *testing.T, what string, got impl.Bands, ok bool) {
	t.Helper()
	if ok || len(got.Coarse)+len(got.Details) != 0 {
		t.Errorf("%s: got %v, %v, want a failure", what, got, ok)
	}
}

func TestPromise4ValidBands(t *testing.T) {
	most := number(0x7f7fffff)
	all := append(goodBands(rand.New(rand.NewPCG(11, 3))), bandsOf(1, 1), bandsOf(3, 3), bandsOf(64, 64), bandsOf(1, 32, 16, 8, 4, 2, 1), bandsOf(2, 64, 32, 16, 8, 4, 2),
		bandsOf(21, 42, 21), impl.Bands{Coarse: []float32{-most}, Details: [][]float32{{most}}})
	for _, b := range all {
		if !impl.ValidBands(b) {
			t.Error("ValidBands is false for ", b)
		}
	}
	for _, b := range falseBands() {
		if impl.ValidBands(b) {
			t.Error("ValidBands is true for ", b)
		}
	}
}

func TestPromise4SameBands(t *testing.T) {
	minus, nan, other := number(minusZeroBits), number(notANumberBits), number(0xffc12345)
	for _, c := range [][2]impl.Bands{
		{{}, {Coarse: []float32{}, Details: [][]float32{}}}, {{Details: [][]float32{nil}}, {Details: [][]float32{{}}}}, {bandsOf(2, 4, 2), bandsOf(2, 4, 2)},
		{{Coarse: []float32{nan}, Details: [][]float32{{minus}, {nan, 2}}}, {Coarse: []float32{other}, Details: [][]float32{{minus}, {other, 2}}}},
		{bandsOf(200, list(20, 130)...), bandsOf(200, list(20, 130)...)},
	} {
		if !impl.SameBands(c[0], c[1]) || !impl.SameBands(c[1], c[0]) {
			t.Error("SameBands is false for ", c)
		}
	}
	for _, c := range [][2]impl.Bands{
		{{}, bandsOf(1)}, {{}, bandsOf(0, 0)}, {bandsOf(0, 0), bandsOf(0, 0, 0)}, {bandsOf(1, 1), bandsOf(1, 2)}, {bandsOf(1, 2, 1), bandsOf(1, 2)}, {bandsOf(1, 2, 1), bandsOf(2, 2, 1)},
		{bandsOf(1, 1), {Coarse: []float32{minus}, Details: [][]float32{{0}}}}, {bandsOf(1, 1), {Coarse: []float32{0}, Details: [][]float32{{minus}}}},
		{{Coarse: []float32{1}, Details: [][]float32{{2, 3}, {4}}}, {Coarse: []float32{1}, Details: [][]float32{{2, 3}, {5}}}}, {bandsOf(1, 1, 2), bandsOf(1, 2, 1)},
	} {
		if impl.SameBands(c[0], c[1]) || impl.SameBands(c[1], c[0]) {
			t.Error("SameBands is true for ", c)
		}
	}
}

func TestPromise4LevelsByHand(t *testing.T) {
	one := impl.Pair{Low: []float32{1, 0}}
	b, ok := impl.SplitLevels([]float32{1, 2, 3, 4, 5, 6, 7, 8}, one, 3)
	want := impl.Bands{Coarse: []float32{1}, Details: [][]float32{{-2, -4, -6, -8}, {-3, -7}, {-5}}}
	checkBands(t, "SplitLevels with three levels", b, ok, want)
	x, ok := impl.JoinLevels(want, one)
	checkNumbers(t, "JoinLevels of three levels", x, ok, []float32{1, 2, 3, 4, 5, 6, 7, 8})
	b, ok = impl.SplitLevels([]float32{1, 2}, one, 1)
	checkBands(t, "SplitLevels of two numbers", b, ok, impl.Bands{Coarse: []float32{1}, Details: [][]float32{{-2}}})
	x, ok = impl.JoinLevels(impl.Bands{Coarse: []float32{2}, Details: [][]float32{{3}}}, one)
	checkNumbers(t, "JoinLevels of one level", x, ok, []float32{2, -3})
}

func TestPromise4LevelsAsTold(t *testing.T) {
	r := rand.New(rand.NewPCG(12, 3))
	for n := 1; n <= 130; n++ {
		for levels := int64(1); levels <= 6; levels++ {
			for _, p := range manyPairs(r) {
				x := middleNumbers(r, n)
				b, ok := impl.SplitLevels(x, p, levels)
				what := fmt.Sprint("SplitLevels of ", n, " numbers with ", p, levels)
				if n > 128 || n%int(math.Pow(2, float64(levels))) != 0 {
					checkNoBands(t, what, b, ok)
					continue
				}
				checkBands(t, what, b, ok, toldSplitLevels(x, p, levels))
				if !impl.ValidBands(b) {
					t.Error(what, " are not valid: ", b)
				}
			}
		}
	}
	for _, b := range goodBands(r) {
		for _, p := range manyPairs(r) {
			got, ok := impl.JoinLevels(b, p)
			checkTold(t, fmt.Sprint("JoinLevels of ", b, " with ", p), got, ok, toldJoinLevels(b, p))
		}
	}
}

func TestPromise4LevelsAreUndoneNearly(t *testing.T) {
	r := rand.New(rand.NewPCG(13, 3))
	for n := 2; n <= 128; n += 2 {
		for levels := int64(1); levels <= 6 && n%(1<<levels) == 0; levels++ {
			for _, p := range manyPairs(r) {
				x := lightNumbers(r, n)
				b, ok := impl.SplitLevels(x, p, levels)
				if !ok {
					t.Fatal("SplitLevels of ", x, " fails")
				}
				back, ok := impl.JoinLevels(b, p)
				checkNear(t, fmt.Sprint("JoinLevels of SplitLevels with ", p, levels), back, ok, x, 0.001)
				powers, ok := impl.PowersOfBands(b)
				sum := 0.0
				for _, power := range powers {
					sum += float64(power)
				}
				if !ok || int64(len(powers)) != levels+1 || math.Abs(sum/wideEnergy(x)-1) > 0.0001 {
					t.Error("the energy of ", x, " is ", wideEnergy(x), ", that of its bands ", powers, ok)
				}
				checkAlone(t, b, p, x)
			}
		}
	}
}

// checkAlone checks that all bands alone are the list together, nearly.
func checkAlone(t *testing.T, b impl.Bands, p impl.Pair, x []float32) {
	t.Helper()
	sum := make([]float32, len(x))
	for level := range int64(len(b.Details)) + 1 {
		alone, ok := impl.BandAlone(b, p, level)
		if !ok || len(alone) != len(x) {
			t.Error("BandAlone of ", b, " with ", p, level, ": ", alone, ok)
			return
		}
		for i := range sum {
			sum[i] += alone[i]
		}
	}
	checkNear(t, fmt.Sprint("the sum of all bands with ", p), sum, true, x, 0.001)
}

func TestPromise4EvenListsHaveNoDetails(t *testing.T) {
	for _, n := range []int{2, 4, 64, 128} {
		low, high, ok := impl.SplitRing(list(n, float32(-7.25)), impl.HaarPair())
		checkNumbers(t, "what is high of an even list", high, ok, make([]float32, n/2))
		checkNear(t, "what is low of an even list", low, ok, list(n/2, float32(-10.253048)), 0.00001)
	}
}

func TestPromise4LevelsThatAreNotSplit(t *testing.T) {
	check := func(x []float32, p impl.Pair, levels int64) {
		t.Helper()
		b, ok := impl.SplitLevels(x, p, levels)
		checkNoBands(t, fmt.Sprint("SplitLevels of ", x, " with ", p, levels), b, ok)
	}
	for _, levels := range []int64{0, -1, 7, 8, 62, 63, 64, 65, math.MinInt64, math.MaxInt64} {
		for _, n := range []int{1, 2, 64, 128} {
			check(list(n, float32(1)), impl.HaarPair(), levels)
		}
	}
	for _, x := range wrongLists() {
		check(append(x, x...), impl.HaarPair(), 1)
	}
	for _, p := range wrongPairs() {
		check(list(8, float32(1)), p, 2)
	}
	for _, n := range []int{1, 2, 6, 10, 126, 130, 132, 256} {
		check(list(n, float32(1)), impl.HaarPair(), 2)
	}
	check(list(32, float32(1)), impl.HaarPair(), 6)
	check(list(96, float32(1)), impl.HaarPair(), 6)
	check(list(4, float32(2e38)), impl.HaarPair(), 2) // only the second level is infinite
	b, ok := impl.SplitLevels(list(4, float32(1.6e38)), impl.HaarPair(), 2)
	if !ok || len(b.Details) != 2 {
		t.Error("SplitLevels of great numbers: ", b, ok)
	}
}

func TestPromise4BandsThatAreNotTaken(t *testing.T) {
	haar := impl.HaarPair()
	for _, b := range falseBands() {
		if x, ok := impl.JoinLevels(b, haar); ok || len(x) != 0 {
			t.Error("JoinLevels of ", b, ": ", x, ok)
		}
		if powers, ok := impl.PowersOfBands(b); ok || len(powers) != 0 {
			t.Error("PowersOfBands of ", b, ": ", powers, ok)
		}
		kept, ok := impl.KeepBands(b, true, make([]bool, len(b.Details)))
		checkNoBands(t, fmt.Sprint("KeepBands of ", b), kept, ok)
		for level := range int64(len(b.Details)) + 1 {
			if x, ok := impl.BandAlone(b, haar, level); ok || len(x) != 0 {
				t.Error("BandAlone of ", b, level, ": ", x, ok)
			}
		}
		if rough, ok := impl.RoughnessOf(b); ok || rough != 0 {
			t.Error("RoughnessOf ", b, ": ", rough, ok)
		}
	}
	good := impl.Bands{Coarse: []float32{1}, Details: [][]float32{{1, 2}, {3}}}
	for _, p := range wrongPairs() {
		if x, ok := impl.JoinLevels(good, p); ok || len(x) != 0 {
			t.Error("JoinLevels with ", p, ": ", x, ok)
		}
		if x, ok := impl.BandAlone(good, p, 1); ok || len(x) != 0 {
			t.Error("BandAlone with ", p, ": ", x, ok)
		}
	}
	for _, level := range []int64{-1, 3, 4, math.MinInt64, math.MaxInt64} {
		if x, ok := impl.BandAlone(good, haar, level); ok || len(x) != 0 {
			t.Error("BandAlone with the level ", level, ": ", x, ok)
		}
	}
	for _, count := range []int{0, 1, 3, 6, 100} {
		kept, ok := impl.KeepBands(good, true, list(count, true))
		checkNoBands(t, fmt.Sprint("KeepBands with keep of the length ", count), kept, ok)
	}
	most := number(0x7f7fffff)
	great := impl.Bands{Coarse: []float32{most}, Details: [][]float32{{most}}}
	if x, ok := impl.JoinLevels(great, haar); ok || len(x) != 0 {
		t.Error("JoinLevels of ", great, ": ", x, ok)
	}
	for level := range int64(2) {
		x, ok := impl.BandAlone(great, haar, level)
		checkTold(t, "BandAlone of great numbers", x, ok, toldJoinLevels(onlyBand(great, level), haar))
		if !ok {
			t.Error("BandAlone of ", great, level, " fails")
		}
	}
}

func TestPromise4PowersOfBands(t *testing.T) {
	for _, c := range []struct {
		b    impl.Bands
		want []float32
	}{
		{impl.Bands{Coarse: []float32{1}, Details: [][]float32{{-2, -4}, {-3}}}, []float32{20, 9, 1}},
		{impl.Bands{Coarse: numbersOf(minusZeroBits), Details: [][]float32{numbersOf(minusZeroBits)}}, []float32{0, 0}},
		{impl.Bands{Coarse: []float32{0x1p12, 1, 1}, Details: [][]float32{{1, 1, 0x1p12}}}, []float32{0x1.000002p24, 0x1p24}},
		{impl.Bands{Coarse: []float32{0x1.001p0, 0x1.001p0}, Details: [][]float32{{0x1.fffffep63, 0}}}, []float32{0x1.fffffcp127, 0x1.002p1}},
	} {
		powers, ok := impl.PowersOfBands(c.b)
		checkNumbers(t, fmt.Sprint("PowersOfBands of ", c.b), powers, ok, c.want)
	}
	for _, b := range goodBands(rand.New(rand.NewPCG(14, 3))) {
		want := []float32{}
		for _, details := range b.Details {
			want = append(want, toldPower(details))
		}
		powers, ok := impl.PowersOfBands(b)
		checkTold(t, fmt.Sprint("PowersOfBands of ", b), powers, ok, append(want, toldPower(b.Coarse)))
	}
	for _, b := range []impl.Bands{
		{Coarse: []float32{0x1p64}, Details: [][]float32{{1}}}, {Coarse: []float32{1}, Details: [][]float32{{0x1p64}}}, {Coarse: []float32{1}, Details: [][]float32{{1, 1}, {-0x1p64}}},
		{Coarse: []float32{1}, Details: [][]float32{{0x1.8p63, 0x1.8p63}, {1}}},
	} {
		if powers, ok := impl.PowersOfBands(b); ok || len(powers) != 0 {
			t.Error("PowersOfBands of ", b, ": ", powers, ok)
		}
	}
}

// onlyBand has zeros in all bands but one.
func onlyBand(b impl.Bands, level int64) impl.Bands {
	only := bandsOf(len(b.Coarse))
	for k, details := range b.Details {
		only.Details = append(only.Details, make([]float32, len(details)))
		if int64(k) == level {
			only.Details[k] = details
		}
	}
	if level == int64(len(b.Details)) {
		only.Coarse = b.Coarse
	}
	return only
}

func TestPromise4KeptBands(t *testing.T) {
	minus := number(minusZeroBits)
	b := impl.Bands{Coarse: []float32{minus}, Details: [][]float32{{-3, minus, 5, 6}, {minus, 4}, {7}}}
	for _, c := range []struct {
		coarse bool
		keep   []bool
		want   impl.Bands
	}{
		{true, []bool{true, true, true}, b},
		{false, []bool{false, false, false}, bandsOf(1, 4, 2, 1)},
		{false, []bool{true, false, true}, impl.Bands{Coarse: []float32{0}, Details: [][]float32{{-3, minus, 5, 6}, {0, 0}, {7}}}},
		{true, []bool{false, true, false}, impl.Bands{Coarse: []float32{minus}, Details: [][]float32{{0, 0, 0, 0}, {minus, 4}, {0}}}},
	} {
		kept, ok := impl.KeepBands(b, c.coarse, c.keep)
		checkBands(t, fmt.Sprint("KeepBands with ", c.coarse, c.keep), kept, ok, c.want)
	}
	one := impl.Pair{Low: []float32{1, 0}}
	for level, want := range [][]float32{{0, 2, 0, 4}, {0, 0, 3, 0}, {1, 0, 0, 0}} {
		x, ok := impl.BandAlone(impl.Bands{Coarse: []float32{1}, Details: [][]float32{{-2, -4}, {-3}}}, one, int64(level))
		checkNumbers(t, fmt.Sprint("BandAlone with the level ", level), x, ok, want)
	}
	r := rand.New(rand.NewPCG(15, 3))
	for _, b := range goodBands(r) {
		p := manyPairs(r)[r.IntN(10)]
		for level := range int64(len(b.Details)) + 1 {
			x, ok := impl.BandAlone(b, p, level)
			checkTold(t, fmt.Sprint("BandAlone of ", b, " with ", p, level), x, ok, toldJoinLevels(onlyBand(b, level), p))
		}
	}
}
