package tests

import (
	"fmt"
	"math/rand/v2"
	"strings"
	"testing"

	"loop.example/g01317/impl"
)

func oddBlocks() [][]impl.Cost {
	all := append(wrongBlocks(), blocksAtLimits()...)
	return append(all, blockOf(0, 8, 2, 7, 4, 2), list(16, impl.Cost{Bits: 1, Miss: 1}))
}

func TestPromise1EveryCutReturns(t *testing.T) {
	for _, block := range oddBlocks() {
		callTwice(t, fmt.Sprint("a function of ", len(block), " costs"), func() string {
			edge, ok := impl.EdgeCosts(block)
			return seen(impl.AreCosts(block), edge, ok)
		})
		for _, blocks := range [][][]impl.Cost{{block}, {block, block}, list(8, block), list(9, block), {blockOf(0, 1), block}} {
			for _, n := range append(oddIntegers(), 512, 513) {
				callTwice(t, fmt.Sprint("BestCuts of ", len(blocks), " blocks with ", n), func() string {
					cuts, miss, ok := impl.BestCuts(blocks, n)
					return seen(cuts, miss, ok)
				})
			}
			for _, bits := range oddBits() {
				callTwice(t, fmt.Sprintf("SlopeCuts of %d blocks with %08x", len(blocks), bits), func() string {
					cuts, count, miss, ok := impl.SlopeCuts(blocks, number(bits))
					return seen(cuts, count, miss, ok)
				})
			}
		}
	}
	callTwice(t, "cuts of no blocks", func() string {
		cuts, miss, one := impl.BestCuts(nil, 1)
		other, count, far, two := impl.SlopeCuts(nil, 1)
		edge, three := impl.EdgeCosts(nil)
		return seen(cuts, miss, one, other, count, far, two, edge, three)
	})
}

// oddLines are lists of all kinds, and lines among them.
func oddLines() [][]float32 {
	all := append(oddLists(), wrongLines()...)
	for _, n := range append(lineLengths(), gridLengths()...) {
		all = append(all, numbersBehind(n), list(n, float32(2)), list(n, number(minusZeroBits)), list(n, number(0x7f7fffff)))
	}
	return all
}

func TestPromise1EveryLineReturns(t *testing.T) {
	for _, x := range oddLines() {
		callTwice(t, fmt.Sprint("a function of a line of ", len(x), " numbers"), func() string {
			coarse, one := impl.CoarsenLine(x)
			fine, two := impl.RefineLine(x)
			surplus, three := impl.SurplusOf(x)
			grid, four := impl.FromSurplus(x)
			left, five := impl.ResidualOf(x, []float32{1, 2, 3}, 1)
			smooth, six := impl.SmoothLine([]float32{1, 2, 3}, x, 1, 2)
			cycle, seven := impl.CycleOnce(x, []float32{1}, 1, 1, 1)
			return seen(coarse, one, fine, two, surplus, three, grid, four, left, five, smooth, six, cycle, seven)
		})
		for _, bits := range oddBits() {
			y := number(bits)
			callTwice(t, fmt.Sprintf("a function of a line of %d numbers and of %08x", len(x), bits), func() string {
				left, one := impl.ResidualOf(x, x, y)
				smooth, two := impl.SmoothLine(x, x, y, 2)
				cycle, three := impl.CycleOnce(x, x, y, 2, 2)
				line, made, four := impl.SolveCycles(x, y, 1, 3)
				other, count, five := impl.SolveCycles(x, 1, y, 3)
				solved, six := impl.SolveLine(x, y)
				shared, seven := impl.LinesShared([][]float32{x, {1}}, y, 2)
				thin, few, eight := impl.ThinSurplus(x, y)
				return seen(left, one, smooth, two, cycle, three, line, made, four, other, count, five, solved, six, shared, seven, thin, few, eight)
			})
		}
	}
	for _, x := range [][]float32{{1}, {1, 2, 3}, list(63, float32(1)), {1, 2}, nil} {
		for _, n := range append(oddIntegers(), 8, 9, 32, 33) {
			callTwice(t, fmt.Sprint("a function of a line of ", len(x), " numbers and of ", n), func() string {
				smooth, one := impl.SmoothLine(x, x, 1, n)
				cycle, two := impl.CycleOnce(x, x, 1, n, 1)
				other, three := impl.CycleOnce(x, x, 1, 1, n)
				line, made, four := impl.SolveCycles(x, 1, 0, n)
				shared, five := impl.LinesShared([][]float32{x, x}, 1, n)
				return seen(smooth, one, cycle, two, other, three, line, made, four, shared, five)
			})
		}
	}
	for _, count := range []int{0, 1, 8, 9, 1000} {
		callTwice(t, fmt.Sprint("LinesShared of ", count), func() string {
			shared, one := impl.LinesShared(list(count, []float32{1, 2, 3}), 1, 8)
			none, two := impl.LinesShared(list(count, []float32{1, 2}), 1, 8)
			return seen(shared, one, none, two)
		})
	}
}

func TestPromise1EveryHoleReturns(t *testing.T) {
	for _, x := range oddLists() {
		for _, known := range [][]bool{nil, make([]bool, len(x)), list(len(x), true), append(make([]bool, max(len(x)-1, 0)), true), list(len(x)+1, true), list(4, true)} {
			callTwice(t, fmt.Sprint("FillRounds of ", len(x), " numbers"), func() string {
				filled, one := impl.FillRounds(x, known, impl.FourPair(), 1, 1, 0.5, 2)
				other, two := impl.FillRounds(x, known, impl.HaarPair(), 6, 0, 1, 0)
				return seen(filled, one, other, two)
			})
		}
	}
	x, known := []float32{1, 2, 3, 4}, []bool{true, false, true, false}
	for _, p := range oddPairs() {
		callTwice(t, "FillRounds with a pair", func() string {
			filled, ok := impl.FillRounds(x, known, p, 1, 1, 0.5, 2)
			return seen(filled, ok)
		})
	}
	for _, n := range append(oddIntegers(), 32, 33) {
		callTwice(t, fmt.Sprint("FillRounds with ", n), func() string {
			filled, one := impl.FillRounds(x, known, impl.HaarPair(), n, 1, 0.5, 2)
			other, two := impl.FillRounds(x, known, impl.HaarPair(), 1, 1, 0.5, n)
			return seen(filled, one, other, two)
		})
	}
	for _, bits := range oddBits() {
		callTwice(t, fmt.Sprintf("FillRounds with %08x", bits), func() string {
			filled, one := impl.FillRounds(x, known, impl.HaarPair(), 2, number(bits), 0.5, 3)
			other, two := impl.FillRounds(x, known, impl.HaarPair(), 2, 1, number(bits), 3)
			return seen(filled, one, other, two)
		})
	}
}

func TestPromise1EveryTakeReturns(t *testing.T) {
	for _, take := range append(wrongTakes(), takesAtLimits()...) {
		callTwice(t, fmt.Sprintf("a function of the take %.20q", take.Name), func() string {
			stored, one := impl.StoreTake(take)
			all, two := impl.StoreTakes([]impl.Take{take, take})
			packed, three := impl.PackTake(take.Values)
			back, four := impl.LoadTake(stored)
			some, count, five := impl.RecoverTakes(all)
			return seen(impl.ValidTake(take), impl.SameTakes([]impl.Take{take}, wrongTakes()), stored, one, all, two, packed, three, takesSeen(back), four, takesSeen(some...), count, five)
		})
	}
	good := toldTake(takesAtLimits()[1])
	texts := append(oddTexts(), good[:len(good)-1], good+good, "TAK1", "TAK1\x01", "TAK1\xff", "TAK1\x01a\xff\xff\xff\xff", "TAK1\x00\x00\x00\x00\x00", strings.Repeat("TAK1", 5000), strings.Repeat("\xff", 100000), strings.Repeat("\x04", 100000), strings.Repeat(good, 100))
	for _, s := range texts {
		callTwice(t, fmt.Sprintf("a function of the bytes %.20q", s), func() string {
			x, one := impl.UnpackTake(s)
			take, two := impl.LoadTake(s)
			takes, count, three := impl.RecoverTakes(s)
			return seen(x, one, takesSeen(take), two, takesSeen(takes...), count, three)
		})
	}
	for _, x := range oddLists() {
		callTwice(t, fmt.Sprint("PackTake of ", len(x), " numbers"), func() string {
			packed, one := impl.PackTake(x)
			back, two := impl.UnpackTake(packed)
			return seen(packed, one, back, two)
		})
	}
	for _, count := range []int{0, 1, 8, 9, 1000} {
		callTwice(t, fmt.Sprint("StoreTakes of ", count), func() string {
			all, ok := impl.StoreTakes(list(count, takesAtLimits()[0]))
			return seen(all, ok)
		})
	}
}

// Any number of workers makes the same lines, and calls at the same time do not
// disturb each other.
func TestPromise1RoundsAtTheSameTime(t *testing.T) {
	r := rand.New(rand.NewPCG(41, 7))
	many, blocks := [][]float32{}, anyBlocks(r, 8, 100, false)
	for range 8 {
		many = append(many, lightNumbers(r, 63))
	}
	known, take := anyKnown(r, 128), anyTake(r, 128)
	x, s := lightNumbers(r, 128), toldTake(anyTake(r, 100))
	call := func(workers int64) string {
		lines, one := impl.LinesShared(many, 0.5, workers)
		line, made, two := impl.SolveCycles(many[0], 1, 0.1, 32)
		cuts, miss, three := impl.BestCuts(blocks, 400)
		filled, four := impl.FillRounds(x, known, impl.FourPair(), 3, 2, 0.5, 8)
		stored, five := impl.StoreTake(take)
		back, six := impl.LoadTake(s)
		none, seven := impl.LoadTake(s[:len(s)-3])
		return seen(lines, one, line, made, two, cuts, miss, three, filled, four, stored, five, takesSeen(back), six, takesSeen(none), seven)
	}
	want, calls := call(1), make(chan string)
	for k := range 16 {
		go func() { calls <- call(int64(1 + k%8)) }()
	}
	for range 16 {
		if got := <-calls; got != want {
			t.Error("functions beside others: ", got, ", want ", want)
		}
	}
}

func TestPromise1ListsOfRoundsAreNotModified(t *testing.T) {
	for _, count := range []int{1, 3, 31} {
		u, f, grid, x := list(count, float32(0.5)), list(count, float32(-0.25)), list(count+2, float32(5)), list(64, float32(-2))
		f[0], grid[1], x[3] = 7, 9, 5
		block := append(evenBlock(5, 3), impl.Cost{Bits: -1, Miss: 7})[:5]
		blocks, many := list(3, block), list(3, f)
		known := list(64, true)
		known[7], known[8] = false, false
		p := impl.Pair{Low: append(make([]float32, 0, 9), impl.FourPair().Low...)}
		takes := list(3, impl.Take{Name: "a", Rate: 3, Values: x})
		state := func() string {
			return seen(whole(u), whole(f), whole(grid), whole(x), fmt.Sprint(whole(block), whole(blocks), whole(known)), whole(many), whole(p.Low), takesSeen(whole(takes)...))
		}
		before := state()
		impl.EdgeCosts(block)
		impl.SlopeCuts(blocks, 1)
		impl.BestCuts(blocks, 20)
		impl.ResidualOf(u, f, 1)
		impl.SmoothLine(u, f, 1, 0)
		impl.SmoothLine(u, f, 1, 3)
		impl.CoarsenLine(f)
		impl.RefineLine(f)
		impl.CycleOnce(u, f, 1, 0, 0)
		impl.CycleOnce(u, f, 1, 2, 2)
		impl.SolveCycles(f, 1, 0.1, 32)
		impl.SolveLine(f, 1)
		impl.LinesShared(many, 1, 3)
		impl.SurplusOf(grid)
		impl.FromSurplus(grid)
		impl.ThinSurplus(grid, 2)
		impl.FillRounds(x, known, p, 2, 1, 0.5, 0)
		impl.FillRounds(x, known, p, 2, 1, 0.5, 3)
		impl.SameTakes(takes, takes)
		impl.PackTake(x)
		impl.StoreTake(takes[0])
		impl.StoreTakes(takes)
		if state() != before {
			t.Error("arguments have been modified, with the length ", count)
		}
	}
}

func TestPromise1ListsOfRoundsAreNew(t *testing.T) {
	for _, count := range []int{1, 3, 31} {
		u, f, p := list(count, float32(0.5)), list(count, float32(-0.25)), impl.FourPair()
		left, _ := impl.ResidualOf(u, f, 1)
		same, _ := impl.SmoothLine(u, f, 1, 0)
		smooth, _ := impl.SmoothLine(u, f, 1, 2)
		fine, _ := impl.RefineLine(f)
		coarse, _ := impl.CoarsenLine(fine)
		none, _ := impl.CycleOnce(u, f, 1, 0, 0)
		cycle, _ := impl.CycleOnce(u, f, 1, 1, 1)
		near, _, _ := impl.SolveCycles(f, 1, 1, 32)
		solved, _ := impl.SolveLine(f, 1)
		lines, _ := impl.LinesShared([][]float32{f, f, u}, 1, 2)
		grid := list(count+2, float32(3))
		surplus, _ := impl.SurplusOf(grid)
		back, _ := impl.FromSurplus(grid)
		thin, _, _ := impl.ThinSurplus(grid, 0)
		x, known := list(4, float32(3)), list(4, true)
		all, _ := impl.FillRounds(x, known, p, 1, 1, 1, 0)
		filled, _ := impl.FillRounds(x, known, p, 1, 1, 1, 2)
		lists := [][]float32{u, f, left, same, smooth, fine, coarse, none, cycle, near, solved, grid, surplus, back, thin, x, all, filled, p.Low}
		lists = append(lists, lines...)
		for k, list := range lists {
			if len(list) == 0 {
				t.Error("a function of lines fails: ", count, k)
			}
		}
		checkApart(t, "a function of lines", lists...)
	}
	blocks := list(3, blockOf(0, 8, 2, 7, 4, 2))
	edge, _ := impl.EdgeCosts(blocks[0])
	sloped, _, _, _ := impl.SlopeCuts(blocks, 1)
	again, _, _, _ := impl.SlopeCuts(blocks, 1)
	best, _, _ := impl.BestCuts(blocks, 6)
	other, _, _ := impl.BestCuts(blocks, 6)
	if len(edge) == 0 || len(sloped) == 0 || len(best) == 0 {
		t.Error("a function of costs fails")
	}
	checkApart(t, "a function of costs", edge, sloped, again, best, other)
	s := toldTake(takesAtLimits()[1])
	one, _ := impl.LoadTake(s)
	two, _ := impl.LoadTake(s)
	some, _, _ := impl.RecoverTakes(s + s + s)
	unpacked, _ := impl.UnpackTake("\x04\x04")
	lists := [][]float32{one.Values, two.Values, unpacked}
	for _, take := range some {
		lists = append(lists, take.Values)
	}
	if len(one.Values) != 128 || len(some) != 3 || len(unpacked) != 2 {
		t.Error("a function of takes fails")
	}
	checkApart(t, "a function of takes", lists...)
}
