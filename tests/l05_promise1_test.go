package tests

import (
	"fmt"
	"math/rand/v2"
	"testing"

	"loop.example/g01317/impl"
)

func TestPromise1EveryShrinkingReturns(t *testing.T) {
	for _, x := range oddLists() {
		callTwice(t, fmt.Sprint("a function of ", len(x), " numbers"), func() string {
			median, one := impl.MedianOf(x)
			spread, two := impl.SpreadOf(x)
			noise, three := impl.NoiseOf(impl.Bands{Coarse: x, Details: [][]float32{x}})
			limit, least, four := impl.BestLimit(x, 1)
			clean, five := impl.Denoise(x, impl.HaarPair(), 1, true)
			return seen(median, one, spread, two, noise, three, limit, least, four, clean, five)
		})
		for _, bits := range oddBits() {
			y := number(bits)
			callTwice(t, fmt.Sprintf("a function of %d numbers and of %08x", len(x), bits), func() string {
				soft, one := impl.ShrinkList(x, y, false)
				hard, two := impl.ShrinkList(x, y, true)
				risk, three := impl.RiskOf(x, y, 1)
				other, four := impl.RiskOf(x, 1, y)
				limit, least, five := impl.BestLimit(x, y)
				blocks, six := impl.BlockShrink(x, 3, y)
				return seen(soft, one, hard, two, risk, three, other, four, limit, least, five, blocks, six)
			})
		}
		for _, n := range oddIntegers() {
			callTwice(t, fmt.Sprint("a function of ", len(x), " numbers and of ", n), func() string {
				blocks, one := impl.BlockShrink(x, n, 1)
				clean, two := impl.Denoise(x, impl.FourPair(), n, false)
				limit, three := impl.PlainLimit(2, n)
				return seen(blocks, one, clean, two, limit, three)
			})
		}
	}
	for _, n := range oddBits() {
		for _, m := range oddBits() {
			callTwice(t, fmt.Sprintf("a function of %08x and %08x", n, m), func() string {
				soft, one := impl.SoftShrink(number(n), number(m))
				hard, two := impl.HardShrink(number(n), number(m))
				limit, three := impl.PlainLimit(number(n), int64(m))
				return seen(soft, one, hard, two, limit, three)
			})
		}
	}
	for k, b := range oddBands() {
		for _, x := range oddLists() {
			callTwice(t, fmt.Sprint("a function of the bands ", k, " and of ", len(x), " numbers"), func() string {
				noise, one := impl.NoiseOf(b)
				soft, two := impl.ShrinkBands(b, x, false)
				hard, three := impl.ShrinkBands(b, x, true)
				return seen(noise, one, bandsSeen(soft), two, bandsSeen(hard), three)
			})
		}
	}
	for k, p := range oddPairs() {
		for _, x := range oddLists() {
			callTwice(t, fmt.Sprint("Denoise with the pair ", k, " of ", len(x), " numbers"), func() string {
				clean, ok := impl.Denoise(x, p, 1, false)
				return seen(clean, ok)
			})
		}
	}
}

func TestPromise1EveryBreakAndMeanReturns(t *testing.T) {
	for _, x := range oddLists() {
		callTwice(t, fmt.Sprint("a function of ", len(x), " numbers"), func() string {
			at, gain, one := impl.BestBreak(x)
			breaks, two := impl.BreaksOf(x, 0, 16)
			slope, base, three := impl.TrendOf(x)
			near, four := impl.KernelMean(x, x, 0, 1)
			miss, five := impl.MissOfLists(x, x)
			clear, six := impl.ClearnessOf(x, list(len(x), float32(3)))
			return seen(at, gain, one, breaks, two, slope, base, three, near, four, miss, five, clear, six)
		})
		for _, bits := range oddBits() {
			y := number(bits)
			callTwice(t, fmt.Sprintf("a function of %d numbers and of %08x", len(x), bits), func() string {
				breaks, one := impl.BreaksOf(x, y, 2)
				near, two := impl.KernelMean(x, x, y, 1)
				other, three := impl.KernelMean(x, list(len(x), float32(1)), 1, y)
				return seen(breaks, one, near, two, other, three)
			})
		}
		for _, n := range oddIntegers() {
			callTwice(t, fmt.Sprint("a function of ", len(x), " numbers and of ", n), func() string {
				breaks, one := impl.BreaksOf(x, 0, n)
				season, two := impl.SeasonOf(x, n)
				left, three := impl.WithoutSeason(x, n)
				return seen(breaks, one, season, two, left, three)
			})
		}
		for _, breaks := range append(oddIntegerLists(), []int64{1, 2}, list(17, int64(1)), []int64{-1}, []int64{1, 2, 3, 4, 5, 6, 7, 8, 9, 10, 11, 12, 13, 14, 15, 16}) {
			callTwice(t, fmt.Sprint("SegmentMeans of ", len(x), " numbers and ", len(breaks), " breaks"), func() string {
				means, ok := impl.SegmentMeans(x, breaks)
				return seen(means, ok)
			})
		}
	}
	for _, x := range wrongLists() {
		for _, y := range oddLists() {
			callTwice(t, fmt.Sprint("a function of lists of ", len(x), " and ", len(y), " numbers"), func() string {
				near, one := impl.KernelMean(x, y, 0, 1)
				other, two := impl.KernelMean(y, x, 0, 1)
				miss, three := impl.MissOfLists(x, y)
				clear, four := impl.ClearnessOf(y, x)
				return seen(near, one, other, two, miss, three, clear, four)
			})
		}
	}
}

func TestPromise1EveryAtomReturns(t *testing.T) {
	atoms := append(wrongAtoms(), impl.Atom{Scale: 1, Size: 1}, impl.Atom{Place: 127, Scale: 16, Size: number(0x7f7fffff)}, impl.Atom{Place: 64, Scale: 0.5, Size: number(0x80000001)})
	for _, a := range atoms {
		for _, n := range oddIntegers() {
			callTwice(t, fmt.Sprint("a function of ", a, n), func() string {
				one, ok := impl.AtomList(n, a)
				sum, also := impl.FromAtoms(n, []impl.Atom{a, {Scale: 1, Size: 1}, a})
				other, too := impl.FromAtoms(7, []impl.Atom{{Place: n, Scale: a.Scale, Size: a.Size}})
				return seen(one, ok, sum, also, other, too)
			})
		}
	}
	for _, count := range []int{0, 1, 16, 17, 1000} {
		callTwice(t, fmt.Sprint("FromAtoms of ", count), func() string {
			sum, ok := impl.FromAtoms(128, list(count, impl.Atom{Scale: 1, Size: 1}))
			return seen(sum, ok)
		})
	}
	for _, x := range oddLists() {
		for _, scales := range append(oddNumbersAlone(), nil, []float32{1}, []float32{0.5, 16}, list(13, float32(1))) {
			callTwice(t, fmt.Sprint("PursueOnce of ", len(x), " numbers with ", scales), func() string {
				atom, left, one := impl.PursueOnce(x, scales)
				atoms, over, two := impl.Pursue(x, scales, 2)
				return seen(atomsSeen(atom), left, one, atomsSeen(atoms...), over, two)
			})
		}
	}
	for _, n := range oddIntegers() {
		callTwice(t, fmt.Sprint("Pursue with count ", n), func() string {
			atoms, left, ok := impl.Pursue([]float32{1, -2, 3}, []float32{1, 2}, n)
			return seen(atomsSeen(atoms...), left, ok)
		})
	}
}

// Calls at the same time do not disturb each other.
func TestPromise1NoiseAtTheSameTime(t *testing.T) {
	x, scales := lightNumbers(rand.New(rand.NewPCG(31, 5)), 64), []float32{1, 2, 3, 0.5, 9}
	call := func() string {
		atoms, left, one := impl.Pursue(x, scales, 2)
		breaks, two := impl.BreaksOf(x, 0, 16)
		clean, three := impl.Denoise(x, impl.FourPair(), 3, false)
		return seen(atomsSeen(atoms...), left, one, breaks, two, clean, three)
	}
	want, calls := call(), make(chan string)
	for range 16 {
		go func() { calls <- call() }()
	}
	for range 16 {
		if got := <-calls; got != want {
			t.Error("functions beside others: ", got, ", want ", want)
		}
	}
}

func TestPromise1ListsOfNoiseAreNotModified(t *testing.T) {
	for _, count := range []int{1, 2, 32, 64} {
		x, y, z := list(count, float32(0.5)), list(count, float32(-0.25)), list(2*count, float32(-2))
		x[0], z[count] = 7, 5
		p := impl.Pair{Low: append(make([]float32, 0, 9), impl.FourPair().Low...)}
		b := impl.Bands{Coarse: x, Details: [][]float32{z, y, {7}}[:2]}
		limits, scales, breaks := list(2, float32(0.25)), list(3, float32(1.5)), list(1, int64(count))
		atoms := list(3, impl.Atom{Place: 0, Scale: 2, Size: -3})
		state := func() string {
			return seen(whole(x), whole(y), whole(z), whole(p.Low), whole(b.Details), whole(limits), whole(scales), fmt.Sprint(whole(breaks)), atomsSeen(whole(atoms)...))
		}
		before := state()
		impl.MedianOf(z)
		impl.SpreadOf(z)
		impl.NoiseOf(b)
		for _, hard := range []bool{false, true} {
			impl.ShrinkList(z, 3, hard)
			impl.ShrinkBands(b, limits, hard)
			impl.Denoise(z, p, 1, hard)
		}
		impl.RiskOf(z, 1, 1)
		impl.BestLimit(z, 1)
		impl.BlockShrink(z, 2, 1)
		impl.BlockShrink(z, 2, 100)
		impl.BestBreak(z)
		impl.BreaksOf(z, 0, 16)
		impl.SegmentMeans(z, breaks)
		impl.SeasonOf(z, 2)
		impl.WithoutSeason(z, 2)
		impl.TrendOf(z)
		impl.KernelMean(x, y, 0, 1)
		impl.PursueOnce(z, scales)
		impl.Pursue(z, scales, 0)
		impl.Pursue(z, scales, 2)
		impl.FromAtoms(int64(count), atoms)
		impl.MissOfLists(x, y)
		impl.ClearnessOf(x, y)
		if state() != before {
			t.Error("lists have been modified, with the length ", count)
		}
	}
}

func TestPromise1ListsOfNoiseAreNew(t *testing.T) {
	for _, count := range []int{2, 4, 64, 128} {
		x, p := list(count, float32(2)), impl.FourPair()
		x[0] = 9
		b, _ := impl.SplitLevels(x, p, 1)
		all := [][]float32{x, b.Coarse, p.Low}
		all = append(all, b.Details...)
		for _, hard := range []bool{false, true} {
			small, _ := impl.ShrinkList(x, 0, hard)
			bands, _ := impl.ShrinkBands(b, []float32{0}, hard)
			clean, _ := impl.Denoise(x, p, 1, hard)
			all = append(all, small, bands.Coarse, clean)
			all = append(all, bands.Details...)
		}
		blocks, _ := impl.BlockShrink(x, 128, 0)
		means, _ := impl.SegmentMeans(x, []int64{1})
		season, _ := impl.SeasonOf(x, int64(count))
		left, _ := impl.WithoutSeason(x, 1)
		atom, _ := impl.AtomList(int64(count), impl.Atom{Scale: 1, Size: 1})
		_, once, _ := impl.PursueOnce(x, []float32{1})
		_, none, _ := impl.Pursue(x, []float32{1}, 0)
		_, two, _ := impl.Pursue(x, []float32{1}, 2)
		sum, _ := impl.FromAtoms(int64(count), []impl.Atom{{Scale: 1, Size: 1}})
		all = append(all, blocks, means, season, left, atom, once, none, two, sum)
		for k, list := range all {
			if len(list) == 0 {
				t.Error("a function of lists fails: ", count, k)
			}
		}
		checkApart(t, "a function of noise", all...)
	}
	x := []float32{1, 1, 5, 5}
	breaks, _ := impl.BreaksOf(x, 0, 3)
	again, _ := impl.BreaksOf(x, 0, 3)
	checkApart(t, "BreaksOf", breaks, again)
	atoms, _, _ := impl.Pursue(x, []float32{1}, 2)
	other, _, _ := impl.Pursue(x, []float32{1}, 2)
	if atoms[0].Place = 99; other[0].Place == 99 {
		t.Error("Pursue shares atoms")
	}
	b := impl.Bands{Coarse: []float32{1}, Details: [][]float32{{2}}}
	small, _ := impl.ShrinkBands(b, []float32{0}, true)
	if small.Details[0] = nil; b.Details[0] == nil {
		t.Error("ShrinkBands shares the list of Details")
	}
}
