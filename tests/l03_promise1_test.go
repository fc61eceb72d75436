package tests

import (
	"fmt"
	"math/rand/v2"
	"testing"

	"loop.example/g01317/impl"
)

func oddPairs() []impl.Pair {
	all := append(wrongPairs(), pairsAtLimits()...)
	return append(all, impl.HaarPair(), impl.FourPair(), impl.Pair{Low: numbersBehind(8)}, impl.Pair{Low: list(8, number(0x7f7fffff))})
}

func oddBands() []impl.Bands {
	all := append(falseBands(), bandsOf(1, 1), bandsOf(2, 64, 32, 16, 8, 4, 2), impl.Bands{Coarse: numbersBehind(2), Details: [][]float32{numbersBehind(4), numbersBehind(2)}})
	for _, x := range numbersOf(minusZeroBits, 1, 0x7f7fffff, 0xff7fffff, 0x5f000000) {
		all = append(all, impl.Bands{Coarse: list(3, x), Details: [][]float32{list(6, x), list(3, x)}}, impl.Bands{Coarse: list(64, x), Details: [][]float32{list(64, x)}})
	}
	return all
}

func TestPromise1EveryRingReturns(t *testing.T) {
	for _, p := range oddPairs() {
		for _, x := range oddLists() {
			callTwice(t, fmt.Sprint("a function of ", p, " and of ", len(x), " numbers"), func() string {
				high, one := impl.HighOf(p)
				evens, odds, two := impl.SplitRing(x, p)
				joined, three := impl.JoinRing(x, x, p)
				b, four := impl.SplitLevels(x, p, 1)
				back, five := impl.JoinLevels(impl.Bands{Coarse: x, Details: [][]float32{x}}, p)
				return seen(impl.ValidPair(p), impl.ValidPair(impl.Pair{Low: x}), impl.SamePair(p, impl.Pair{Low: x}), high, one, evens, odds, two, joined, three, bandsSeen(b), four, back, five)
			})
		}
		for _, b := range oddBands() {
			for _, n := range []int64{0, 1, -1, 6} {
				callTwice(t, fmt.Sprint("a function of ", p, " and of bands"), func() string {
					back, one := impl.JoinLevels(b, p)
					alone, two := impl.BandAlone(b, p, n)
					return seen(back, one, alone, two)
				})
			}
		}
	}
}

func TestPromise1EveryBandReturns(t *testing.T) {
	all := oddBands()
	for k, b := range all {
		callTwice(t, fmt.Sprint("a function of bands ", k), func() string {
			powers, one := impl.PowersOfBands(b)
			kept, two := impl.KeepBands(b, k%2 == 0, make([]bool, k%7))
			again, three := impl.KeepBands(b, k%2 != 0, list(len(b.Details), true))
			rough, four := impl.RoughnessOf(b)
			return seen(impl.ValidBands(b), impl.SameBands(b, b), impl.SameBands(b, all[0]), powers, one, bandsSeen(kept), two, bandsSeen(again), three, rough, four)
		})
	}
	for _, n := range oddIntegers() {
		for _, long := range []int{0, 1, 2, 64, 128, 129} {
			callTwice(t, fmt.Sprint("a function of ", n, " and of ", long, " numbers"), func() string {
				x := list(long, float32(3))
				b, one := impl.SplitLevels(x, impl.FourPair(), n)
				rows, two := impl.FrameOf(x, n)
				alone, three := impl.BandAlone(impl.Bands{Coarse: x, Details: [][]float32{x}}, impl.FourPair(), n)
				linked, four := impl.LinkMaxima([][]float32{x, x}, n)
				table, five := impl.TableShared(x, []float32{2, 1}, n)
				return seen(bandsSeen(b), one, rows, two, alone, three, linked, four, table, five)
			})
		}
	}
}

func TestPromise1EveryRowAndRippleReturns(t *testing.T) {
	for _, n := range oddBits() {
		callTwice(t, fmt.Sprintf("a function of the scale %08x", n), func() string {
			kernel, one := impl.RippleKernel(number(n))
			ripples, two := impl.RipplesOf([]float32{1, 2, 3}, number(n))
			table, three := impl.RippleTable([]float32{1, 2, 3}, numbersOf(n, 0x3f800000))
			shared, four := impl.TableShared([]float32{1, 2, 3}, numbersOf(0x3f800000, n), 2)
			return seen(kernel, one, ripples, two, table, three, shared, four)
		})
	}
	for _, x := range oddLists() {
		callTwice(t, fmt.Sprint("a function of rows of ", len(x), " numbers"), func() string {
			ripples, one := impl.RipplesOf(x, 2)
			table, two := impl.RippleTable(x, x)
			shared, three := impl.TableShared(x, []float32{2, 1}, 3)
			rows, four := impl.FrameOf(x, 6)
			back, five := impl.FromFrame([][]float32{x, x})
			ridge, six := impl.RidgeOf([][]float32{x, x})
			maxima, seven := impl.MaximaOf(x)
			linked, eight := impl.LinkMaxima([][]float32{x, x}, 3)
			return seen(ripples, one, table, two, shared, three, rows, four, back, five, ridge, six, maxima, seven, linked, eight)
		})
	}
	for _, rows := range append(wrongRows(7), wrongRows(12)...) {
		callTwice(t, "a function of rows", func() string {
			back, one := impl.FromFrame(rows)
			ridge, two := impl.RidgeOf(rows)
			linked, three := impl.LinkMaxima(rows, 128)
			return seen(back, one, ridge, two, linked, three)
		})
	}
	for _, x := range oddComplex() {
		for _, y := range oddComplex() {
			callTwice(t, fmt.Sprint("RatesOf ", x, y), func() string {
				rates, ok := impl.RatesOf([]complex64{x, y})
				return seen(rates, ok)
			})
		}
	}
	for _, count := range []int{0, 1, 128, 129, 1000} {
		callTwice(t, "RatesOf a list", func() string {
			rates, ok := impl.RatesOf(complexBehind(count))
			return seen(rates, ok)
		})
	}
}

// Calls at the same time do not disturb each other.
func TestPromise1TablesAtTheSameTime(t *testing.T) {
	x, scales := lightNumbers(rand.New(rand.NewPCG(51, 3)), 64), []float32{1, 2, 3, 0.5, 9}
	want, _ := impl.RippleTable(x, scales)
	tables := make(chan string)
	for k := range 16 {
		go func() {
			table, ok := impl.TableShared(x, scales, int64(1+k%8))
			tables <- seen(table, ok)
		}()
	}
	for range 16 {
		if got := <-tables; got != seen(want, true) {
			t.Error("TableShared beside others: ", got)
		}
	}
}

func TestPromise1ListsOfScalesAreNotModified(t *testing.T) {
	for _, count := range []int{1, 2, 32, 64} {
		x, y, z := list(count, float32(0.5)), list(count, float32(-0.25)), list(2*count, float32(2))
		p, scales := impl.Pair{Low: append(make([]float32, 0, 9), impl.FourPair().Low...)}, list(3, float32(1.5))
		b := impl.Bands{Coarse: x, Details: [][]float32{z, y, {7}}[:2]}
		points, keep, rows := list(count, complex64(2i)), list(2, true), [][]float32{x, y, {7}}[:2]
		state := func() string {
			return seen(whole(x), whole(y), whole(z), whole(p.Low), whole(scales), whole(b.Details), whole(points), fmt.Sprint(whole(keep)), whole(rows))
		}
		before := state()
		impl.ValidPair(p)
		impl.SamePair(p, p)
		impl.HighOf(p)
		impl.SplitRing(z, p)
		impl.JoinRing(x, y, p)
		impl.ValidBands(b)
		impl.SameBands(b, b)
		impl.SplitLevels(z, p, 1)
		impl.JoinLevels(b, p)
		impl.PowersOfBands(b)
		impl.KeepBands(b, false, keep)
		impl.KeepBands(b, true, keep)
		impl.BandAlone(b, p, 0)
		impl.BandAlone(b, p, 2)
		impl.FrameOf(x, 6)
		impl.FrameOf(x, 0)
		impl.FromFrame(rows)
		impl.RipplesOf(x, 2)
		impl.RippleTable(x, scales)
		impl.TableShared(x, scales, 2)
		impl.RidgeOf(rows)
		impl.RatesOf(points)
		impl.MaximaOf(x)
		impl.LinkMaxima(rows, 3)
		impl.RoughnessOf(b)
		if state() != before {
			t.Error("lists have been modified, with the length ", count)
		}
	}
}

func TestPromise1ListsOfScalesAreNew(t *testing.T) {
	for _, count := range []int{2, 4, 64, 128} {
		x, p := list(count, float32(2)), impl.FourPair()
		high, _ := impl.HighOf(p)
		evens, odds, _ := impl.SplitRing(x, p)
		joined, _ := impl.JoinRing(evens, odds, p)
		b, _ := impl.SplitLevels(x, p, 1)
		back, _ := impl.JoinLevels(b, p)
		powers, _ := impl.PowersOfBands(b)
		kept, _ := impl.KeepBands(b, true, []bool{true})
		none, _ := impl.KeepBands(b, false, []bool{false})
		alone, _ := impl.BandAlone(b, p, 1)
		frame, _ := impl.FrameOf(x, 6)
		same, _ := impl.FrameOf(x, 0)
		sum, _ := impl.FromFrame(frame)
		one, _ := impl.FromFrame(frame[:1])
		scales := []float32{0.5, 0.5, 2}
		table, _ := impl.RippleTable(x, scales)
		shared, _ := impl.TableShared(x, scales, 2)
		rates, _ := impl.RatesOf(list(count, complex64(1i)))
		all := [][]float32{x, p.Low, high, evens, odds, joined, b.Coarse, back, powers, kept.Coarse, none.Coarse, alone, sum, one, scales, rates}
		for _, more := range [][][]float32{b.Details, kept.Details, none.Details, frame, same, table, shared} {
			if len(more) == 0 {
				t.Error("a function of lists fails, with the length ", count)
			}
			all = append(all, more...)
		}
		checkApart(t, "a function of scales", all...)
	}
	rows := [][]float32{{1, 0, 2}, {2, 1, 3}}
	ridge, _ := impl.RidgeOf(rows)
	maxima, _ := impl.MaximaOf(rows[0])
	linked, _ := impl.LinkMaxima(rows, 0)
	again, _ := impl.LinkMaxima(rows[:1], 0)
	checkApart(t, "a function of rows", ridge, maxima, linked, again)
	b := impl.Bands{Coarse: []float32{1}, Details: [][]float32{{2}}}
	kept, _ := impl.KeepBands(b, true, []bool{true})
	if kept.Details[0] = nil; b.Details[0] == nil {
		t.Error("KeepBands shares the list of Details")
	}
	checkApart(t, "HaarPair", impl.HaarPair().Low, impl.HaarPair().Low)
	checkApart(t, "FourPair", impl.FourPair().Low, impl.FourPair().Low)
	if impl.HaarPair().Low[0] != 0.70710677 || impl.FourPair().Low[0] != 0.4829629 {
		t.Error("pairs that were overwritten are given out again")
	}
	kernel, _ := impl.RippleKernel(1)
	kernel[3] = 7
	ripples, _ := impl.RipplesOf([]float32{1}, 1)
	if next, _ := impl.RippleKernel(1); next[3] != 1 || ripples[0] != 1 {
		t.Error("kernels that were overwritten are given out again")
	}
}
