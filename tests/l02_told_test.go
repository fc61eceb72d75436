package tests

import (
	"math"
	"math/rand/v2"

	"loop.example/g01317/impl"
)

// The lifts of chapter 2 once more, in another way: lists are lifted in their
// place, where all ends are mirrored, and quotients and 32-bit numbers come from
// 64-bit numbers, which tell them exactly.

// toldMirror tells to which index i is mirrored, by its place in the ring
// 0, 1 .. n - 1, n - 2 .. 1.
func toldMirror(n, i int) int {
	if n == 1 {
		return 0
	}
	ring := 2 * (n - 1)
	at := (i%ring + ring) % ring
	return min(at, ring-at)
}

func floorQuotient(a, b int64) int64 { return int64(math.Floor(float64(a) / float64(b))) }

// toldGuess tells what the evens of a list lead one to expect at the odd index i.
func toldGuess(kind int64, x []int64, i int) int64 {
	n := len(x)
	switch kind {
	case impl.LiftMeans:
		return x[i-1]
	case impl.LiftLines:
		return floorQuotient(x[i-1]+x[toldMirror(n, i+1)], 2)
	}
	even := func(k int) int64 { return x[2*toldMirror((n+1)/2, k)] }
	k := i / 2
	return floorQuotient(9*(even(k)+even(k+1))-(even(k-1)+even(k+2))+8, 16)
}

// toldMend tells what the odds of a list add to the even index i.
func toldMend(kind int64, x []int64, i int) int64 {
	n := len(x)
	switch {
	case n == 1 || kind == impl.LiftMeans && i == n-1:
		return 0
	case kind == impl.LiftMeans:
		return floorQuotient(x[i+1], 2)
	}
	return floorQuotient(x[toldMirror(n, i-1)]+x[toldMirror(n, i+1)]+2, 4)
}

// toldHalves are the evens and the odds of a list.
func toldHalves[T any](x []T) (evens, odds []T) {
	for i := range x {
		if i%2 == 0 {
			evens = append(evens, x[i])
		} else {
			odds = append(odds, x[i])
		}
	}
	return evens, odds
}

func toldLift(kind int64, list []int64) (evens, odds []int64) {
	x := append([]int64{}, list...)
	for i := 1; i < len(x); i += 2 {
		x[i] -= toldGuess(kind, x, i)
	}
	for i := 0; i < len(x); i += 2 {
		x[i] += toldMend(kind, x, i)
	}
	return toldHalves(x)
}

// toldWeigh changes the odd or the even indices of a list by a weight with the
// index k; sign is -1 where it is taken away.
func toldWeigh(x []float32, k int, w, sign float64) {
	n := len(x)
	for i := (k + 1) % 2; i < n; i += 2 {
		both := float32(float64(x[toldMirror(n, i-1)]) + float64(x[toldMirror(n, i+1)]))
		product := float32(w * float64(both))
		x[i] = float32(float64(x[i]) + sign*float64(product))
	}
}

// toldScale multiplies the numbers with the indices from, from + 2 and so on.
func toldScale(x []float32, from int, by float64) {
	for i := from; i < len(x); i += 2 {
		x[i] = float32(float64(x[i]) * by)
	}
}

func toldUnscale(x []float32, from int, by float64) {
	for i := from; i < len(x); i += 2 {
		x[i] = float32(float64(x[i]) / by)
	}
}

func toldLiftOnce(s impl.Scheme, list []float32) (evens, odds []float32) {
	x := append([]float32{}, list...)
	if len(x) > 1 {
		for k, w := range s.Weights {
			toldWeigh(x, k, float64(w), 1)
		}
		toldScale(x, 0, float64(s.Scale))
		toldUnscale(x, 1, float64(s.Scale))
	}
	return toldHalves(x)
}

func toldDropOnce(s impl.Scheme, low, high []float32) []float32 {
	x := make([]float32, len(low)+len(high))
	for i := range x {
		if i%2 == 0 {
			x[i] = low[i/2]
		} else {
			x[i] = high[i/2]
		}
	}
	if len(x) > 1 {
		toldUnscale(x, 0, float64(s.Scale))
		toldScale(x, 1, float64(s.Scale))
		for k := len(s.Weights) - 1; k >= 0; k-- {
			toldWeigh(x, k, float64(s.Weights[k]), -1)
		}
	}
	return x
}

// toldBands splits by any split until there are fewer than two numbers.
func toldBands[T any](x []T, levels int64, split func([]T) ([]T, []T)) [][]T {
	if levels == 0 || len(x) < 2 {
		return [][]T{x}
	}
	evens, odds := split(x)
	return append([][]T{odds}, toldBands(evens, levels-1, split)...)
}

func toldDropDeep(s impl.Scheme, bands [][]float32) []float32 {
	if len(bands) == 1 {
		return bands[0]
	}
	return toldDropOnce(s, toldDropDeep(s, bands[1:]), bands[0])
}

func finite(list []float32) bool {
	for _, x := range list {
		if math.IsNaN(float64(x)) || math.IsInf(float64(x), 0) {
			return false
		}
	}
	return true
}

func allFinite(bands [][]float32) bool {
	for _, band := range bands {
		if !finite(band) {
			return false
		}
	}
	return true
}

// integersUpTo returns count numbers from -most to most, many of which are these.
func integersUpTo(r *rand.Rand, count int, most int64) []int64 {
	x := make([]int64, count)
	for i := range x {
		switch r.IntN(4) {
		case 0:
			x[i] = most
		case 1:
			x[i] = -most
		default:
			x[i] = r.Int64N(2*most+1) - most
		}
	}
	return x
}

func middleNumbers(r *rand.Rand, count int) []float32 {
	x := make([]float32, count)
	for i := range x {
		x[i] = middleNumber(r)
	}
	return x
}

// anyNumbers has finite numbers of all sizes, and zeros of both signs.
func anyNumbers(r *rand.Rand, count int) []float32 {
	x := make([]float32, count)
	for i := range x {
		switch r.IntN(8) {
		case 0:
			x[i] = 0
		case 1:
			x[i] = number(minusZeroBits)
		default:
			x[i] = finiteNumber(r)
		}
	}
	return x
}

// anyScheme has 1 to 8 weights of a middle size.
func anyScheme(r *rand.Rand) impl.Scheme {
	s := impl.Scheme{Scale: float32(0.25 + 2*r.Float64())}
	for range 1 + r.IntN(8) {
		s.Weights = append(s.Weights, float32(3*r.Float64()-1.5))
	}
	return s
}
