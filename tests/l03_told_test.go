package tests

import (
	"math"
	"math/rand/v2"

	"loop.example/g01317/impl"
)

// The formulas of chapter 3 once more, in another way: each 32-bit operation is
// a 64-bit one that is narrowed, which rounds the same and is never fused; rings
// are unrolled or told by matrices; and ripples come from the formulas of
// chapter 1 with numbers of package big.

func plus32(a, b float32) float32    { return float32(float64(a) + float64(b)) }
func less32(a, b float32) float32    { return float32(float64(a) - float64(b)) }
func times32(a, b float32) float32   { return float32(float64(a) * float64(b)) }
func divided32(a, b float32) float32 { return float32(float64(a) / float64(b)) }

// toldSum begins with +0.
func toldSum(list ...float32) float32 {
	sum := float32(0)
	for _, x := range list {
		sum = plus32(sum, x)
	}
	return sum
}

func toldPairIsValid(low []float32) bool {
	n := len(low)
	if n != 2 && n != 4 && n != 6 && n != 8 || !finite(low) {
		return false
	}
	for _, shift := range []int{0, 2, 4, 6} {
		products := []float32{}
		for k := shift; k < n; k++ {
			products = append(products, times32(low[k-shift], low[k]))
		}
		sum := float64(toldSum(products...))
		if shift == 0 {
			sum--
		}
		if shift < n && !(math.Abs(sum) <= float64(number(0x3a83126f))) {
			return false
		}
	}
	return true
}

func toldHigh(low []float32) []float32 {
	high := []float32{}
	for k := range low {
		x := low[len(low)-1-k]
		if k%2 == 1 {
			x = number(math.Float32bits(x) ^ minusZeroBits)
		}
		high = append(high, x)
	}
	return high
}

// toldUnrolled repeats a ring until nine numbers more than it has are there.
func toldUnrolled(ring []float32) []float32 {
	long := []float32{}
	for len(long) < len(ring)+9 {
		long = append(long, ring...)
	}
	return long
}

func toldFilter(ring, taps []float32) []float32 {
	long, out := toldUnrolled(ring), []float32{}
	for first := 0; first < len(ring); first += 2 {
		products := []float32{}
		for k, tap := range taps {
			products = append(products, times32(tap, long[first+k]))
		}
		out = append(out, toldSum(products...))
	}
	return out
}

// toldJoin collects for each number of a ring what is added to it.
func toldJoin(low, high []float32, p impl.Pair) []float32 {
	added := make([][]float32, 2*len(low))
	other := toldHigh(p.Low)
	for j := range low {
		at := 2 * j
		for k, tap := range p.Low {
			both := plus32(times32(tap, low[j]), times32(other[k], high[j]))
			added[at] = append(added[at], both)
			if at++; at == len(added) {
				at = 0
			}
		}
	}
	list := []float32{}
	for _, all := range added {
		list = append(list, toldSum(all...))
	}
	return list
}

func toldSplitLevels(list []float32, p impl.Pair, levels int64) impl.Bands {
	if levels == 0 {
		return impl.Bands{Coarse: list}
	}
	b := toldSplitLevels(toldFilter(list, p.Low), p, levels-1)
	b.Details = append([][]float32{toldFilter(list, toldHigh(p.Low))}, b.Details...)
	return b
}

func toldJoinLevels(b impl.Bands, p impl.Pair) []float32 {
	if len(b.Details) == 0 {
		return b.Coarse
	}
	rest := impl.Bands{Coarse: b.Coarse, Details: b.Details[1:]}
	return toldJoin(toldJoinLevels(rest, p), b.Details[0], p)
}

func toldPower(list []float32) float32 {
	squares := []float32{}
	for _, x := range list {
		squares = append(squares, times32(x, x))
	}
	return toldSum(squares...)
}

func toldFrame(list []float32, levels int64) [][]float32 {
	rows, n, far := [][]float32{}, len(list), 1
	for range levels {
		row, next := []float32{}, []float32{}
		for i, x := range list {
			at := func(k int) float32 { return list[toldMirror(n, i+k*far)] }
			mean := toldSum(times32(at(-2), 0.0625), times32(at(-1), 0.25), times32(x, 0.375), times32(at(1), 0.25), times32(at(2), 0.0625))
			row, next = append(row, less32(x, mean)), append(next, mean)
		}
		rows, list, far = append(rows, row), next, 2*far
	}
	return append(rows, list)
}

func toldFromFrame(rows [][]float32) []float32 {
	list := []float32{}
	for i := range rows[0] {
		column := []float32{}
		for k := len(rows) - 1; k >= 0; k-- {
			column = append(column, rows[k][i])
		}
		list = append(list, toldSum(column...))
	}
	return list
}

// toldReach is the least integer that is at least the rounded product 3 scale.
func toldReach(scale float32) int {
	reach := 0
	for float32(reach) < times32(3, scale) {
		reach++
	}
	return reach
}

func toldKernel(scale float32) []complex64 {
	kernel := []complex64{}
	for k := range 2*toldReach(scale) + 1 {
		u := divided32(float32(k-toldReach(scale)), scale)
		re, im := formulaPhasor(wide(float64(u)))
		size := divided32(number(narrow(formulaExponential(times32(times32(-0.5, u), u)))), scale)
		kernel = append(kernel, complex(times32(number(narrow(re)), size), times32(number(narrow(im)), size)))
	}
	return kernel
}

// toldRipples goes through the list for each ripple, not through the kernel.
func toldRipples(list []float32, scale float32) []complex64 {
	kernel, ripples := toldKernel(scale), []complex64{}
	for i := range list {
		re, im := []float32{}, []float32{}
		for m, x := range list {
			if k := m - i + toldReach(scale); k >= 0 && k < len(kernel) {
				re, im = append(re, times32(real(kernel[k]), x)), append(im, times32(-imag(kernel[k]), x))
			}
		}
		ripples = append(ripples, complex(toldSum(re...), toldSum(im...)))
	}
	return ripples
}

func toldTable(list, scales []float32) [][]float32 {
	rows := [][]float32{}
	for _, scale := range scales {
		row := []float32{}
		for _, x := range toldRipples(list, scale) {
			re, im := float64(real(x)), float64(imag(x))
			row = append(row, float32(re*re+im*im)) // both squares are exact
		}
		rows = append(rows, row)
	}
	return rows
}

// toldRate tells how far two numbers turn from one to the next.
func toldRate(from, to complex64) float32 {
	re, im, _ := formulaProduct(real(to), imag(to), real(from), -imag(from))
	x, y := number(narrow(re)), number(narrow(im))
	if x == 0 && y == 0 {
		return 0
	}
	return number(narrow(formulaAngle(y, x)))
}

// toldMaxima puts a number that is less than all others before and behind a list.
func toldMaxima(list []float32) []int64 {
	sizes := []float64{-1}
	for _, x := range list {
		sizes = append(sizes, math.Abs(float64(x)))
	}
	sizes = append(sizes, -1)
	maxima := []int64{}
	for i := 1; i <= len(list); i++ {
		if sizes[i] != 0 && sizes[i] > sizes[i-1] && !(sizes[i+1] > sizes[i]) {
			maxima = append(maxima, int64(i-1))
		}
	}
	return maxima
}

// toldLink goes outwards from each place, to the lower side first.
func toldLink(rows [][]float32, near int64) []int64 {
	left := []int64{}
	for _, first := range toldMaxima(rows[0]) {
		place, linked := first, true
		for _, row := range rows[1:] {
			there := map[int64]bool{}
			for _, m := range toldMaxima(row) {
				there[m] = true
			}
			far := int64(0)
			for far <= near && !there[place-far] && !there[place+far] {
				far++
			}
			linked = linked && far <= near
			if there[place-far] {
				place -= far
			} else {
				place += far
			}
		}
		if linked {
			left = append(left, first)
		}
	}
	return left
}

func toldRoughness(b impl.Bands) float32 {
	n := float32(len(b.Details))
	x, y, xx, xy := []float32{}, []float32{}, []float32{}, []float32{}
	for k, details := range b.Details {
		mean := divided32(toldPower(details), float32(len(details)))
		level := divided32(number(narrow(formulaLogarithm(mean))), number(0x3f317218))
		x, y = append(x, float32(k)), append(y, level)
		xx, xy = append(xx, float32(k*k)), append(xy, times32(float32(k), level))
	}
	over := less32(times32(n, toldSum(xy...)), times32(toldSum(x...), toldSum(y...)))
	under := less32(times32(n, toldSum(xx...)), times32(toldSum(x...), toldSum(x...)))
	return divided32(over, under)
}

// anyPair has up to eight taps: a pair of two numbers on a circle is turned by
// some angles, where one half of it is shifted each time.
func anyPair(r *rand.Rand, taps int) impl.Pair {
	angle := 2 * math.Pi * r.Float64()
	evens, odds := []float64{math.Cos(angle)}, []float64{math.Sin(angle)}
	for len(evens) < taps/2 {
		angle = 2 * math.Pi * r.Float64()
		c, s := math.Cos(angle), math.Sin(angle)
		evens, odds = append(evens, 0), append([]float64{0}, odds...)
		for m := range evens {
			evens[m], odds[m] = c*evens[m]+s*odds[m], c*odds[m]-s*evens[m]
		}
	}
	p := impl.Pair{}
	for m := range evens {
		p.Low = append(p.Low, float32(evens[m]), float32(odds[m]))
	}
	return p
}

// manyPairs has the named pairs, those with one number alone, and some of each
// number of taps.
func manyPairs(r *rand.Rand) []impl.Pair {
	all := []impl.Pair{impl.HaarPair(), impl.FourPair(), {Low: []float32{1, 0}}, {Low: []float32{0, -1, 0, 0, 0, 0, 0, 0}}, {Low: numbersOf(minusZeroBits, minusZeroBits, 0, 0x3f800000)}}
	for _, taps := range []int{2, 4, 6, 8, 8} {
		all = append(all, anyPair(r, taps))
	}
	return all
}
