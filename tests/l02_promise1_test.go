package tests

import (
	"fmt"
	"math"
	"testing"

	"loop.example/g01317/impl"
)

func oddIntegers() []int64 {
	return []int64{0, 1, -1, 2, 3, 6, 7, 64, 65, 128, 129, 1000000, -1000000, 1000001, 10000000, -10000001, 1 << 32, math.MaxInt64, math.MinInt64}
}

// oddLists are lists of all lengths of interest, with numbers of all kinds in unused capacity too.
func oddLists() [][]float32 {
	all := append(wrongLists(), oddNumbersAlone()...)
	for _, count := range []int{0, 1, 2, 3, 64, 65, 127, 128, 129, 400} {
		all = append(all, numbersBehind(count), list(count, float32(2)), list(count, number(minusZeroBits)), list(count, number(0x7f7fffff)))
	}
	return all
}

func oddNumbersAlone() [][]float32 {
	all := [][]float32{}
	for _, n := range oddBits() {
		all = append(all, numbersOf(n), numbersOf(n, n), numbersOf(n, 0x3f800000, n))
	}
	return all
}

func oddSchemes() []impl.Scheme {
	return append(wrongSchemes(), impl.LinesScheme(), impl.NineScheme(), impl.Scheme{Weights: numbersBehind(8), Scale: 1},
		impl.Scheme{Weights: list(8, number(0x7f7fffff)), Scale: number(1)}, impl.Scheme{Weights: list(1, float32(0)), Scale: number(0x7f7fffff)})
}

// integersBehind has integers with others in its unused capacity.
func integersBehind(count int) []int64 {
	all := make([]int64, count+4)
	for i := range all {
		all[i] = int64(i*i) - 5
	}
	return all[:count]
}

func oddIntegerLists() [][]int64 {
	all := append(wrongIntegers(), oddIntegers())
	for _, count := range []int{1, 2, 3, 64, 65, 127, 128, 129, 400} {
		all = append(all, integersBehind(count), list(count, int64(1000000)), list(count, int64(math.MinInt64)), list(count, int64(10000000)))
	}
	return all
}

func TestPromise1EveryIndexReturns(t *testing.T) {
	for _, n := range oddIntegers() {
		for _, m := range oddIntegers() {
			callTwice(t, fmt.Sprint("a function of ", n, " and ", m), func() string {
				at, one := impl.MirrorAt(n, m)
				sizes, two := impl.BandSizes(n, m)
				first, far, three := impl.CoverOf(n, 3, m, 0)
				second, next, four := impl.CoverOf(128, n, 0, m)
				return seen(at, one, sizes, two, first, far, three, second, next, four)
			})
		}
	}
}

func TestPromise1EveryListOfIntegersReturns(t *testing.T) {
	for _, kind := range oddIntegers() {
		for _, x := range oddIntegerLists() {
			callTwice(t, fmt.Sprint("a function of the kind ", kind, " and of ", len(x), " integers"), func() string {
				low, high, one := impl.LiftIntegers(kind, x)
				back, two := impl.DropIntegers(kind, x, x)
				bands, three := impl.LiftLevels(kind, x, 6)
				again, four := impl.LiftLevels(1, x, kind)
				list, five := impl.DropLevels(kind, [][]int64{x, x})
				evens, odds, six := impl.SplitIntegers(x)
				return seen(impl.AreIntegers(x), low, high, one, back, two, bands, three, again, four, list, five, evens, odds, six)
			})
		}
	}
}

func TestPromise1EveryListReturns(t *testing.T) {
	for _, x := range oddLists() {
		for _, s := range oddSchemes() {
			callTwice(t, fmt.Sprint("a function of a scheme and of ", len(x), " numbers"), func() string {
				low, high, one := impl.LiftOnce(s, x)
				back, two := impl.DropOnce(s, x, x)
				bands, three := impl.LiftDeep(s, x, 6)
				list, four := impl.DropDeep(s, [][]float32{x, x})
				coarse, five := impl.CoarseOf(s, x, 6, 1)
				grown, six := impl.GrowList(s, x)
				return seen(impl.ValidScheme(s), impl.SameScheme(s, impl.Scheme{Weights: x, Scale: 1}), low, high, one, back, two, bands, three, list, four, coarse, five, grown, six)
			})
		}
		for _, n := range oddIntegers() {
			callTwice(t, fmt.Sprint("a function of ", n, " and of ", len(x), " numbers"), func() string {
				cut, one := impl.CutFlat(x, n)
				bands, two := impl.LiftDeep(impl.NineScheme(), x, n)
				coarse, three := impl.CoarseOf(impl.LinesScheme(), x, 2, n)
				return seen(cut, one, bands, two, coarse, three)
			})
		}
		for _, limit := range oddBits() {
			callTwice(t, fmt.Sprint("a function of bands of ", len(x), " numbers"), func() string {
				bands := [][]float32{x, x}
				left, count, one := impl.SmallOut(bands, number(limit))
				flat, two := impl.FlatBands(bands)
				energy, three := impl.EnergyOf(x)
				energies, four := impl.ListEnergies(bands)
				return seen(impl.IsList(x), impl.AreBands(bands), left, count, one, flat, two, energy, three, energies, four)
			})
		}
	}
}

// whole returns all of a list, with its unused capacity.
func whole[T any](x []T) []T { return x[:cap(x)] }

func TestPromise1ListsOfLiftsAreNotModified(t *testing.T) {
	for _, count := range []int{1, 2, 63, 64} {
		x, y, z := integersBehind(count), integersBehind(count), integersBehind(max(count-1, 1))
		before := fmt.Sprint(whole(x), whole(y), whole(z))
		for _, kind := range liftKinds() {
			impl.SplitIntegers(x)
			impl.LiftIntegers(kind, x)
			impl.DropIntegers(kind, x, y)
			impl.LiftLevels(kind, x, 6)
			impl.DropLevels(kind, [][]int64{y, x})
			impl.DropLevels(kind, [][]int64{z})
		}
		if fmt.Sprint(whole(x), whole(y), whole(z)) != before {
			t.Error("integers have been modified, with the length ", count)
		}
		a, b, s := list(count, float32(0.5)), list(count, float32(0.25)), impl.Scheme{Weights: list(4, float32(0.75)), Scale: 1.5}
		bands := [][]float32{a, b, {7}}[:2]
		earlier := seen(whole(a), whole(b), whole(s.Weights), whole(bands))
		impl.ValidScheme(s)
		impl.SameScheme(s, s)
		impl.LiftOnce(s, a)
		impl.DropOnce(s, a, b)
		impl.LiftDeep(s, a, 6)
		impl.DropDeep(s, bands)
		impl.DropDeep(s, bands[1:])
		impl.FlatBands(bands)
		impl.CutFlat(a, 6)
		impl.ListEnergies(bands)
		impl.SmallOut(bands, 1)
		impl.CoarseOf(s, a, 6, 0)
		impl.GrowList(s, a)
		if seen(whole(a), whole(b), whole(s.Weights), whole(bands)) != earlier {
			t.Error("lists have been modified, with the length ", count)
		}
	}
}

// checkApart checks that no two lists share memory, unused capacity included.
// What is in them is lost.
func checkApart[T int64 | float32](t *testing.T, what string, lists ...[]T) {
	t.Helper()
	for k, x := range lists {
		for i := range whole(x) {
			whole(x)[i] = T(k + 1)
		}
	}
	for k, x := range lists {
		for _, n := range whole(x) {
			if n != T(k+1) {
				t.Error(what, " shares memory with another list")
				return
			}
		}
	}
}

func TestPromise1ListsOfLiftsAreNew(t *testing.T) {
	for _, count := range []int{1, 2, 3, 64} {
		x := integersBehind(count)
		evens, odds, _ := impl.SplitIntegers(x)
		checkApart(t, "SplitIntegers", x, evens, odds)
		for _, kind := range liftKinds() {
			x, zeros := integersBehind(count), make([]int64, count)
			low, high, _ := impl.LiftIntegers(kind, x)
			back, _ := impl.DropIntegers(kind, low, high)
			checkApart(t, "LiftIntegers or DropIntegers", x, low, high, back)
			x = integersBehind(count)
			bands, _ := impl.LiftLevels(kind, x, 6)
			again, _ := impl.DropLevels(kind, bands)
			checkApart(t, "LiftLevels or DropLevels", append(append([][]int64{}, bands...), x, again)...)
			list, _ := impl.DropIntegers(kind, zeros, nil)
			checkApart(t, "DropIntegers of evens alone", zeros, list)
		}
		for _, s := range []impl.Scheme{impl.LinesScheme(), impl.NineScheme()} {
			y := list(count, float32(2))
			low, high, _ := impl.LiftOnce(s, y)
			back, _ := impl.DropOnce(s, low, high)
			bands, _ := impl.LiftDeep(s, y, 6)
			again, _ := impl.DropDeep(s, bands)
			flat, _ := impl.FlatBands(bands)
			cut, _ := impl.CutFlat(y, 6)
			left, _, _ := impl.SmallOut(bands, 0)
			coarse, _ := impl.CoarseOf(s, y, 6, 9)
			energies, _ := impl.ListEnergies(bands)
			grown, _ := impl.GrowList(s, y)
			all := [][]float32{y, low, high, back, again, flat, coarse, energies, grown, s.Weights}
			for _, more := range [][][]float32{bands, cut, left} {
				all = append(all, more...)
			}
			checkApart(t, "a function of lists", all...)
		}
	}
	sizes, _ := impl.BandSizes(9, 6)
	again, _ := impl.BandSizes(9, 6)
	checkApart(t, "BandSizes", sizes, again)
	checkApart(t, "LinesScheme", impl.LinesScheme().Weights, impl.LinesScheme().Weights)
	checkApart(t, "NineScheme", impl.NineScheme().Weights, impl.NineScheme().Weights)
	if lines, nine := impl.LinesScheme().Weights[0], impl.NineScheme().Weights[0]; lines != -0.5 || nine != -1.5861343 {
		t.Error("schemes that were overwritten are given out again: ", lines, nine)
	}
}
