package tests

import (
	"fmt"
	"math"
	"math/rand/v2"
	"testing"

	"loop.example/g01317/impl"
)

func TestPromise4PairsAreAsTold(t *testing.T) {
	if got := seen(impl.HaarPair().Low); got != "3f3504f3 3f3504f3" {
		t.Error("HaarPair: ", got)
	}
	if got := seen(impl.FourPair().Low); got != "3ef746ea 3f5625ef 3e6585f8 be0483ee" {
		t.Error("FourPair: ", got)
	}
	if !impl.ValidPair(impl.HaarPair()) || !impl.ValidPair(impl.FourPair()) {
		t.Error("ValidPair is false for a named pair")
	}
}

// pairsAtLimits have a sum that is just as near to what it has to be as it may be.
func pairsAtLimits() []impl.Pair {
	limit, all := number(0x3a83126f), []impl.Pair{{Low: numbersOf(0x3f7fdf3a, 0)}, {Low: numbersOf(0x3f801061, 0)}, {Low: numbersOf(minusZeroBits, 0xbf801061)}}
	for _, far := range []int{2, 4, 6} {
		for _, x := range []float32{limit, -limit} {
			low := make([]float32, far+2)
			low[1], low[far+1] = -1, x
			all = append(all, impl.Pair{Low: low})
		}
	}
	return all
}

// wrongPairs are pairs that are not valid.
func wrongPairs() []impl.Pair {
	all := []impl.Pair{{}, {Low: []float32{}}, {Low: []float32{1}}, {Low: []float32{1, 0, 0}}, {Low: []float32{1, 0, 0, 0, 0}}, {Low: append([]float32{1}, make([]float32, 6)...)}, {Low: append([]float32{1}, make([]float32, 8)...)}, {Low: append([]float32{1}, make([]float32, 9)...)}, {Low: append([]float32{1}, make([]float32, 599)...)}}
	for _, low := range [][]float32{
		{0, 0}, {1, 1}, {0.5, 0.5}, {1, 0, 1, 0}, {0.5, 0.5, 0.5, 0.5}, {0.70710677, 0, 0.70710677, 0}, {0.70710677, 0, 0, 0, 0.70710677, 0}, {0.70710677, 0, 0, 0, 0, 0, 0.70710677, 0}, numbersOf(0x3f7fdf39, 0), numbersOf(0x3f801062, 0), {1e30, 0}, {1e30, 1e30, -1e30, 1e30}, numbersOf(0x7f7fffff, 0xff7fffff),
	} {
		all = append(all, impl.Pair{Low: low})
	}
	for _, wrong := range wrongNumbers() {
		all = append(all, impl.Pair{Low: []float32{1, wrong}}, impl.Pair{Low: []float32{wrong, 0, 0, 0}}, impl.Pair{Low: []float32{1, 0, 0, 0, 0, 0, 0, wrong}})
	}
	for _, far := range []int{2, 4, 6} {
		for _, bits := range []uint32{0x3a831270, 0xba831270} { // next to the limit
			low := make([]float32, far+2)
			low[0], low[far] = 1, number(bits)
			all = append(all, impl.Pair{Low: low})
		}
	}
	return all
}

func TestPromise4ValidPairs(t *testing.T) {
	r := rand.New(rand.NewPCG(1, 3))
	for _, p := range append(pairsAtLimits(), manyPairs(r)...) {
		if !impl.ValidPair(p) {
			t.Error("ValidPair is false for ", p)
		}
	}
	for _, p := range wrongPairs() {
		if impl.ValidPair(p) {
			t.Error("ValidPair is true for ", p)
		}
	}
	// Odd shifts need not have small sums.
	for _, low := range [][]float32{{0.8, 0.6}, {0.5, 0.5, 0.5, -0.5}, {0, 0.8, 0.6, 0}, {0.8, 0, 0, 0.6}, {0.8, 0, 0, 0, 0, 0, 0, -0.6}} {
		if !impl.ValidPair(impl.Pair{Low: low}) {
			t.Error("ValidPair is false for ", low)
		}
	}
}

// Numbers near to the limits tell whether sums are made in order, each operation rounded.
func TestPromise4ValidPairsNearTheLimits(t *testing.T) {
	r := rand.New(rand.NewPCG(2, 3))
	valid := 0
	for range 40000 {
		p := anyPair(r, 2+2*r.IntN(4))
		by := math.Sqrt(1.001 + 3e-7*(2*r.Float64()-1))
		if r.IntN(2) == 0 {
			by = math.Sqrt(0.999 + 3e-7*(2*r.Float64()-1))
		}
		for k := range p.Low {
			p.Low[k] = float32(by * float64(p.Low[k]))
		}
		want := toldPairIsValid(p.Low)
		if want {
			valid++
		}
		if impl.ValidPair(p) != want {
			t.Error("ValidPair is ", !want, " for ", seen(p.Low))
		}
	}
	if valid < 10000 || valid > 30000 {
		t.Error("too few pairs of one kind: ", valid, " are valid")
	}
}

func TestPromise4SamePairs(t *testing.T) {
	minus, nan, other := number(minusZeroBits), number(notANumberBits), number(0xffc12345)
	for _, c := range [][2][]float32{
		{nil, {}}, {{1, 0}, {1, 0}}, {{nan, minus}, {other, minus}}, {list(9, float32(3)), list(9, float32(3))}, {numbersBehind(300), numbersBehind(300)}, {{5}, {5}},
	} {
		if !impl.SamePair(impl.Pair{Low: c[0]}, impl.Pair{Low: c[1]}) {
			t.Error("SamePair is false for ", c)
		}
	}
	for _, c := range [][2][]float32{
		{nil, {0}}, {{1, 0}, {1, minus}}, {{1, 0}, {1}}, {{1, 0}, {1, 0, 0, 0}}, {{nan}, {1}}, {{1, 0}, {0, 1}}, {list(9, float32(3)), append(list(8, float32(3)), 4)}, {{1, 2}, {2, 2}},
	} {
		a, b := impl.Pair{Low: c[0]}, impl.Pair{Low: c[1]}
		if impl.SamePair(a, b) || impl.SamePair(b, a) {
			t.Error("SamePair is true for ", c)
		}
	}
	if impl.SamePair(impl.HaarPair(), impl.FourPair()) || !impl.SamePair(impl.FourPair(), impl.FourPair()) {
		t.Error("SamePair does not tell the named pairs")
	}
}

func TestPromise4HighTaps(t *testing.T) {
	for _, c := range []struct{ low, high []uint32 }{
		{[]uint32{0x3f800000, 0}, []uint32{0, 0xbf800000}},
		{[]uint32{minusZeroBits, 0x3f800000}, []uint32{0x3f800000, 0}},
		{[]uint32{0x3f800000, 0, 0, minusZeroBits}, []uint32{minusZeroBits, minusZeroBits, 0, 0xbf800000}},
		{[]uint32{0x3ef746ea, 0x3f5625ef, 0x3e6585f8, 0xbe0483ee}, []uint32{0xbe0483ee, 0xbe6585f8, 0x3f5625ef, 0xbef746ea}},
	} {
		high, ok := impl.HighOf(impl.Pair{Low: numbersOf(c.low...)})
		checkNumbers(t, fmt.Sprint("HighOf of ", numbersOf(c.low...)), high, ok, numbersOf(c.high...))
	}
	for _, p := range append(manyPairs(rand.New(rand.NewPCG(3, 3))), pairsAtLimits()...) {
		high, ok := impl.HighOf(p)
		checkNumbers(t, fmt.Sprint("HighOf of ", p), high, ok, toldHigh(p.Low))
	}
	for _, p := range wrongPairs() {
		if high, ok := impl.HighOf(p); ok || len(high) != 0 {
			t.Error("HighOf of ", p, ": ", high, ok)
		}
	}
}

func TestPromise4RingsByHand(t *testing.T) {
	one, minus := impl.Pair{Low: []float32{1, 0}}, number(minusZeroBits)
	shifted := impl.Pair{Low: []float32{0, 0, 0, 0, 0, 1, 0, 0}} // high has -0 but for 1 at 2
	for _, c := range []struct {
		p               impl.Pair
		list, low, high []float32
	}{
		{impl.HaarPair(), []float32{1, 1}, numbersOf(0x3fb504f3), []float32{0}},
		{one, []float32{1, 2, 3, 4}, []float32{1, 3}, []float32{-2, -4}},
		{one, []float32{minus, minus}, []float32{0}, []float32{0}}, // sums begin with +0
		{shifted, []float32{1, 2, 3, 4, 5, 6}, []float32{6, 2, 4}, []float32{3, 5, 1}},
		{shifted, []float32{1, 2}, []float32{2}, []float32{1}}, // more than twice around
		{shifted, []float32{1, 2, 3, 4}, []float32{2, 4}, []float32{3, 1}},
		{impl.Pair{Low: []float32{0.5, 0.5, 0.5, -0.5}}, []float32{3, 5}, []float32{1.5 + 2.5 + 1.5 - 2.5}, []float32{-1.5 - 2.5 + 1.5 - 2.5}},
	} {
		low, high, ok := impl.SplitRing(c.list, c.p)
		checkNumbers(t, fmt.Sprint("low of SplitRing of ", c.list, " with ", c.p), low, ok, c.low)
		checkNumbers(t, fmt.Sprint("high of SplitRing of ", c.list, " with ", c.p), high, ok, c.high)
		back, ok := impl.JoinRing(c.low, c.high, c.p)
		checkNear(t, fmt.Sprint("JoinRing of ", c.low, c.high, " with ", c.p), back, ok, c.list, 1e-6)
	}
	for _, c := range []struct {
		p               impl.Pair
		low, high, list []float32
	}{
		{one, []float32{2}, []float32{3}, []float32{2, -3}}, {one, []float32{1, 3}, []float32{-2, -4}, []float32{1, 2, 3, 4}},
		{one, []float32{minus}, []float32{minus}, []float32{0, 0}}, {shifted, []float32{2, 4}, []float32{3, 1}, []float32{1, 2, 3, 4}},
		{impl.Pair{Low: []float32{0.5, 0.5, 0.5, -0.5}}, []float32{2}, []float32{4}, []float32{2, -4}},
	} {
		list, ok := impl.JoinRing(c.low, c.high, c.p)
		checkNumbers(t, fmt.Sprint("JoinRing of ", c.low, c.high, " with ", c.p), list, ok, c.list)
	}
}

func TestPromise4RingsAsTold(t *testing.T) {
	r := rand.New(rand.NewPCG(4, 3))
	for half := 1; half <= 64; half++ {
		for _, p := range manyPairs(r) {
			for _, x := range [][]float32{middleNumbers(r, 2*half), anyNumbers(r, 2*half)} {
				wantLow, wantHigh := toldFilter(x, p.Low), toldFilter(x, toldHigh(p.Low))
				if !finite(wantLow) || !finite(wantHigh) {
					wantLow, wantHigh = wrongNumbers(), wrongNumbers()
				}
				low, high, ok := impl.SplitRing(x, p)
				checkTold(t, fmt.Sprint("low of SplitRing of ", x, " with ", p), low, ok, wantLow)
				checkTold(t, fmt.Sprint("high of SplitRing of ", x, " with ", p), high, ok, wantHigh)
				list, ok := impl.JoinRing(x[:half], x[half:], p)
				checkTold(t, fmt.Sprint("JoinRing of ", x, " with ", p), list, ok, toldJoin(x[:half], x[half:], p))
			}
		}
	}
}

// lightNumbers are numbers from -100 to 100.
func lightNumbers(r *rand.Rand, count int) []float32 {
	x := make([]float32, count)
	for i := range x {
		x[i] = float32(200*r.Float64() - 100)
	}
	return x
}

// wideEnergy is an energy that is not rounded much.
func wideEnergy(lists ...[]float32) float64 {
	sum := 0.0
	for _, list := range lists {
		for _, x := range list {
			sum += float64(x) * float64(x)
		}
	}
	return sum
}

func TestPromise4RingsAreUndoneNearly(t *testing.T) {
	r := rand.New(rand.NewPCG(5, 3))
	for half := 1; half <= 64; half++ {
		for _, p := range manyPairs(r) {
			x := lightNumbers(r, 2*half)
			low, high, ok := impl.SplitRing(x, p)
			if !ok || len(low) != half || len(high) != half {
				t.Fatal("SplitRing of ", x, ": ", low, high, ok)
			}
			back, ok := impl.JoinRing(low, high, p)
			checkNear(t, fmt.Sprint("JoinRing of SplitRing with ", p), back, ok, x, 0.001)
			if math.Abs(wideEnergy(low, high)/wideEnergy(x)-1) > 0.00001 {
				t.Error("the energy of ", x, " is ", wideEnergy(x), ", split by ", p, wideEnergy(low, high))
			}
		}
	}
}

func TestPromise4RingsThatAreNotSplit(t *testing.T) {
	check := func(x []float32, p impl.Pair) {
		t.Helper()
		if low, high, ok := impl.SplitRing(x, p); ok || len(low)+len(high) != 0 {
			t.Error("SplitRing of ", x, " with ", p, ": ", low, high, ok)
		}
	}
	for _, n := range []int{0, 1, 3, 5, 7, 127, 129, 130, 1000} {
		check(list(n, float32(1)), impl.HaarPair())
	}
	for _, x := range wrongLists() {
		check(append(x, x...), impl.HaarPair())
	}
	for _, p := range wrongPairs() {
		check([]float32{1, 2, 3, 4}, p)
	}
	most := number(0x7f7fffff)
	check([]float32{most, most}, impl.HaarPair())
	check([]float32{most, -most}, impl.HaarPair()) // only what is high is infinite
	check([]float32{0, 0, most, most}, impl.HaarPair())
	// A product that is added to an infinite sum is still one too many.
	check([]float32{most, most, -most, -most}, impl.Pair{Low: []float32{0.5, 0.8660254, 0, 0}})
	low, high, ok := impl.SplitRing([]float32{most, most}, impl.Pair{Low: []float32{0, 1}})
	if seen(low, high, ok) != seen([]float32{most}, []float32{most}, true) {
		t.Error("SplitRing of the greatest numbers: ", low, high, ok)
	}
}

func TestPromise4RingsThatAreNotJoined(t *testing.T) {
	check := func(low, high []float32, p impl.Pair) {
		t.Helper()
		if back, ok := impl.JoinRing(low, high, p); ok || len(back) != 0 {
			t.Error("JoinRing of ", low, high, " with ", p, ": ", back, ok)
		}
	}
	for _, c := range [][2]int{{0, 0}, {0, 1}, {1, 0}, {1, 2}, {2, 1}, {65, 65}, {64, 65}, {65, 64}, {63, 64}, {128, 128}} {
		check(list(c[0], float32(1)), list(c[1], float32(1)), impl.HaarPair())
	}
	for _, wrong := range wrongNumbers() {
		check([]float32{1, wrong}, []float32{1, 1}, impl.HaarPair())
		check([]float32{1, 1}, []float32{wrong, 1}, impl.HaarPair())
	}
	for _, p := range wrongPairs() {
		check([]float32{1}, []float32{2}, p)
	}
	most := number(0x7f7fffff)
	check([]float32{most}, []float32{most}, impl.HaarPair())
	check([]float32{1, most}, []float32{1, -most}, impl.HaarPair())
	back, ok := impl.JoinRing(list(64, most), list(64, most), impl.Pair{Low: []float32{1, 0}})
	checkTold(t, "JoinRing of the greatest numbers", back, ok, toldJoin(list(64, most), list(64, most), impl.Pair{Low: []float32{1, 0}}))
	if !ok || len(back) != 128 {
		t.Error("JoinRing of the longest lists: ", back, ok)
	}
}
