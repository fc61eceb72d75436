package tests

import (
	"fmt"
	"math"
	"math/rand/v2"
	"slices"
	"testing"

	"loop.example/g01317/impl"
)

func TestPromise8ConstantsOfRounds(t *testing.T) {
	if impl.MaxBlocks != 8 || impl.MaxCostBits != 512 || impl.MaxCycles != 32 || impl.MaxTakes != 8 {
		t.Error("constants of chapter 7 are not as they are told")
	}
}

// blockOf has costs with the given Bits and Misses, one after the other.
func blockOf(bitsAndMisses ...float32) []impl.Cost {
	block := []impl.Cost{}
	for i := 0; i < len(bitsAndMisses); i += 2 {
		block = append(block, impl.Cost{Bits: int64(bitsAndMisses[i]), Miss: bitsAndMisses[i+1]})
	}
	return block
}

// evenBlock has count costs whose Bits go up by up, and whose Misses go down by 1.
func evenBlock(count int, up int64) []impl.Cost {
	block := []impl.Cost{}
	for i := range count {
		block = append(block, impl.Cost{Bits: int64(i) * up, Miss: float32(count - 1 - i)})
	}
	return block
}

// wrongBlocks are lists of costs that are no blocks.
func wrongBlocks() [][]impl.Cost {
	all := [][]impl.Cost{nil, {}, evenBlock(17, 1), evenBlock(1000, 1)}
	for _, miss := range wrongLimits() {
		all = append(all, blockOf(1, miss), blockOf(1, miss, 2, 0), blockOf(0, 3, 1, 2, 2, miss))
	}
	for _, bits := range []int64{-1, 513, math.MinInt64, math.MaxInt64} {
		all = append(all, []impl.Cost{{Bits: bits, Miss: 1}}, []impl.Cost{{Bits: 0, Miss: 1}, {Bits: bits, Miss: 0}}, []impl.Cost{{Bits: bits, Miss: 1}, {Bits: 512, Miss: 0}})
	}
	minus := number(minusZeroBits)
	return append(all, blockOf(1, 1, 1, 0), blockOf(2, 1, 1, 0), blockOf(0, 3, 1, 2, 1, 1), blockOf(0, 1, 1, 1), blockOf(0, 1, 1, 2), blockOf(0, 3, 1, 2, 2, 2), blockOf(0, 0, 1, minus), blockOf(0, minus, 1, 0), blockOf(0, minus, 1, minus))
}

// blocksAtLimits are valid ones with as few, as many, as small and as great
// numbers as there may be.
func blocksAtLimits() [][]impl.Cost {
	most, least, minus := number(0x7f7fffff), number(1), number(minusZeroBits)
	return [][]impl.Cost{blockOf(0, 0), blockOf(512, most), blockOf(0, minus), blockOf(0, most, 512, 0), blockOf(511, 1, 512, minus), evenBlock(16, 1), evenBlock(16, 34), blockOf(0, least, 2, 0), blockOf(0, number(3), 1, number(2), 300, least, 512, 0), blockOf(3, most, 4, number(0x7f7ffffe), 5, number(0x7f7ffffd))}
}

func TestPromise8Blocks(t *testing.T) {
	for _, block := range append(blocksAtLimits(), blockOf(0, 8, 2, 7, 4, 2)) {
		if !impl.AreCosts(block) {
			t.Error("AreCosts is false for ", block)
		}
	}
	for _, block := range wrongBlocks() {
		if impl.AreCosts(block) {
			t.Error("AreCosts is true for ", block)
		}
		edge, ok := impl.EdgeCosts(block)
		checkNone(t, fmt.Sprint("EdgeCosts of ", block), ok, edge)
	}
}

func TestPromise8Edges(t *testing.T) {
	least := number(1)
	for _, c := range []struct {
		block []impl.Cost
		want  []int64
	}{
		{blockOf(0, 8, 2, 7, 4, 2), []int64{0, 2}}, {blockOf(0, 8, 2, 3, 4, 2), []int64{0, 1, 2}}, {blockOf(7, 3), []int64{0}}, {blockOf(7, 3, 8, 1), []int64{0, 1}}, {evenBlock(16, 1), []int64{0, 15}}, {evenBlock(3, 7), []int64{0, 2}}, // all slopes are equal
		{blockOf(0, 9, 1, 5, 2, 1, 4, 0), []int64{0, 2, 3}}, {blockOf(0, 16, 1, 8, 2, 4, 3, 2), []int64{0, 1, 2, 3}}, {blockOf(0, 16, 1, 15, 2, 13, 3, 9), []int64{0, 3}}, {blockOf(10, 100, 20, 50, 30, 40, 40, 10, 50, 9), []int64{0, 1, 3, 4}},
		{blockOf(0, least, 2, 0), []int64{0, 1}}, {blockOf(0, number(3), 100, number(2), 300, least, 512, 0), []int64{0, 3}}, {blockOf(0, number(2), 1, least, 512, 0), []int64{0, 1, 2}}, // slopes that are rounded to 0
		{blockOf(0, 1, 1, 0.5, 3, number(0x3effffff)), []int64{0, 1, 2}}, {blockOf(0, 0x1p25, 3, 0x1p25-2, 6, 0x1p25-4), []int64{0, 2}},
	} {
		edge, ok := impl.EdgeCosts(c.block)
		checkIntegers(t, fmt.Sprint("EdgeCosts of ", c.block), edge, ok, c.want)
	}
	r := rand.New(rand.NewPCG(1, 7))
	for range 400 {
		for count := 1; count <= 16; count++ {
			block := anyBlock(r, count, []int{count + 1, 30, 512}[r.IntN(3)], r.IntN(2) == 0)
			edge, ok := impl.EdgeCosts(block)
			checkIntegers(t, fmt.Sprint("EdgeCosts of ", block), edge, ok, toldEdge(block))
		}
	}
	for _, block := range blocksAtLimits() {
		edge, ok := impl.EdgeCosts(block)
		checkIntegers(t, fmt.Sprint("EdgeCosts of ", block), edge, ok, toldEdge(block))
	}
}

// No cost lies below the line between two neighbours of an edge of small integers.
func TestPromise8EdgesLeaveNothingBehind(t *testing.T) {
	r := rand.New(rand.NewPCG(2, 7))
	for range 1000 {
		block := anyBlock(r, 2+r.IntN(15), 40, true)
		edge, _ := impl.EdgeCosts(block)
		for k := 1; k < len(edge); k++ {
			from, to := block[edge[k-1]], block[edge[k]]
			for i := edge[k-1] + 1; i < edge[k]; i++ {
				if c := block[i]; (float64(from.Miss)-float64(c.Miss))*float64(to.Bits-from.Bits) > 1.00001*(float64(from.Miss)-float64(to.Miss))*float64(c.Bits-from.Bits) {
					t.Error("EdgeCosts of ", block, " leaves ", i, " behind: ", edge)
				}
			}
		}
	}
}

func checkSlopeCuts(t *testing.T, blocks [][]impl.Cost, slope float32) {
	t.Helper()
	what := fmt.Sprint("SlopeCuts of ", blocks, slope)
	wantCuts, wantBits, want := toldSlopeCuts(blocks, slope)
	cuts, bits, miss, ok := impl.SlopeCuts(blocks, slope)
	checkToldNumber(t, what, miss, ok, want)
	if !finite([]float32{want}) {
		checkNone(t, what, ok, cuts, bits)
		return
	}
	checkIntegers(t, what, cuts, ok, wantCuts)
	checkCount(t, what, bits, ok, wantBits)
}

func TestPromise8SlopeCuts(t *testing.T) {
	most, minus := number(0x7f7fffff), number(minusZeroBits)
	block := blockOf(0, 8, 2, 7, 4, 2)
	for _, c := range []struct {
		blocks [][]impl.Cost
		slope  float32
		cuts   []int64
		bits   int64
		miss   float32
	}{
		{[][]impl.Cost{block, block}, 1, []int64{2, 2}, 8, 4}, {[][]impl.Cost{block}, 0, []int64{2}, 4, 2}, {[][]impl.Cost{block}, minus, []int64{2}, 4, 2}, {[][]impl.Cost{block}, 1.5, []int64{0}, 0, 8}, {[][]impl.Cost{block}, 1.4999999, []int64{2}, 4, 2}, {[][]impl.Cost{block}, most, []int64{0}, 0, 8}, {[][]impl.Cost{block[1:]}, most, []int64{0}, 2, 7}, // all are infinite
		{[][]impl.Cost{evenBlock(16, 1)}, 1, []int64{0}, 0, 15}, {[][]impl.Cost{evenBlock(16, 2)}, 0.5, []int64{0}, 0, 15}, {[][]impl.Cost{blockOf(0, 9, 1, 3, 2, 2, 4, 1)}, 1, []int64{1}, 1, 3}, {[][]impl.Cost{blockOf(0, 0x1p24, 1, 0x1p24-1)}, 0.5, []int64{0}, 0, 0x1p24}, // equal sums
		{[][]impl.Cost{blockOf(0, minus)}, 1, []int64{0}, 0, 0}, {[][]impl.Cost{blockOf(512, most)}, 1, []int64{0}, 512, most}, {[][]impl.Cost{blockOf(512, 1), blockOf(512, 1), blockOf(512, 1), blockOf(512, 1), blockOf(512, 1), blockOf(512, 1), blockOf(512, 1), blockOf(512, 1)}, 3, []int64{0, 0, 0, 0, 0, 0, 0, 0}, 4096, 8},
		{[][]impl.Cost{blockOf(0, 1), blockOf(0, 0x1p24), blockOf(0, 1)}, 0, []int64{0, 0, 0}, 0, 0x1p24}, {[][]impl.Cost{blockOf(0, 1), blockOf(0, 1), blockOf(0, 0x1p24)}, 0, []int64{0, 0, 0}, 0, 0x1p24 + 2},
	} {
		what := fmt.Sprint("SlopeCuts of ", c.blocks, c.slope)
		cuts, bits, miss, ok := impl.SlopeCuts(c.blocks, c.slope)
		checkIntegers(t, what, cuts, ok, c.cuts)
		checkCount(t, what, bits, ok, c.bits)
		checkFound(t, what, miss, ok, bitsOf(c.miss), true)
	}
	r := rand.New(rand.NewPCG(3, 7))
	for range 200 {
		for count := 1; count <= 8; count++ {
			blocks := anyBlocks(r, count, []int{20, 512}[r.IntN(2)], r.IntN(2) == 0)
			for _, slope := range []float32{0, 1, 0.5, float32(2 * r.Float64()), finitePositive(r), most} {
				checkSlopeCuts(t, blocks, slope)
			}
		}
	}
}

func checkNoCuts(t *testing.T, blocks [][]impl.Cost, slope float32, budget int64) {
	t.Helper()
	cuts, bits, miss, ok := impl.SlopeCuts(blocks, slope)
	checkNone(t, fmt.Sprint("SlopeCuts of ", len(blocks), " blocks with ", slope), ok, cuts, bits, miss)
	cuts, miss, ok = impl.BestCuts(blocks, budget)
	checkNone(t, fmt.Sprint("BestCuts of ", len(blocks), " blocks with ", budget), ok, cuts, miss)
}

func TestPromise8CutsThatThereAreNot(t *testing.T) {
	good, most := blockOf(0, 1), number(0x7f7fffff)
	for _, blocks := range [][][]impl.Cost{nil, {}, list(9, good), list(1000, good), list(8, blockOf(0, most)), {blockOf(0, most), blockOf(0, most)}, {blockOf(0, most), blockOf(0, 0x1p103)}} {
		checkNoCuts(t, blocks, 1, 512)
		checkNoCuts(t, blocks, 0, 0)
	}
	for _, wrong := range wrongBlocks() {
		for _, blocks := range [][][]impl.Cost{{wrong}, {good, wrong}, {wrong, good}, append(list(7, good), wrong), {good, wrong, good}} {
			checkNoCuts(t, blocks, 1, 512)
		}
	}
	for _, slope := range wrongLimits() {
		cuts, bits, miss, ok := impl.SlopeCuts([][]impl.Cost{good}, slope)
		checkNone(t, fmt.Sprint("SlopeCuts with ", slope), ok, cuts, bits, miss)
	}
	for _, budget := range []int64{-1, 513, 1 << 32, math.MinInt64, math.MaxInt64} {
		cuts, miss, ok := impl.BestCuts([][]impl.Cost{good}, budget)
		checkNone(t, fmt.Sprint("BestCuts with ", budget), ok, cuts, miss)
	}
}

func TestPromise8BestCutsByHand(t *testing.T) {
	most, minus := number(0x7f7fffff), number(minusZeroBits)
	block, none := blockOf(0, 8, 2, 7, 4, 2), []int64(nil)
	for _, c := range []struct {
		blocks [][]impl.Cost
		budget int64
		cuts   []int64
		miss   float32
	}{
		{[][]impl.Cost{block, block}, 6, []int64{2, 1}, 9}, {[][]impl.Cost{block, block}, 8, []int64{2, 2}, 4}, {[][]impl.Cost{block, block}, 7, []int64{2, 1}, 9}, {[][]impl.Cost{block, block}, 4, []int64{2, 0}, 10}, {[][]impl.Cost{block, block}, 3, []int64{1, 0}, 15}, {[][]impl.Cost{block, block}, 1, []int64{0, 0}, 16}, {[][]impl.Cost{block, block}, 0, []int64{0, 0}, 16}, {[][]impl.Cost{block, block}, 512, []int64{2, 2}, 4},
		{[][]impl.Cost{block[1:]}, 1, none, 0}, {[][]impl.Cost{block[1:]}, 2, []int64{0}, 7}, {[][]impl.Cost{block[1:]}, 0, none, 0}, {[][]impl.Cost{block[1:], block[2:]}, 5, none, 0}, {[][]impl.Cost{block[1:], block[2:]}, 6, []int64{0, 0}, 9}, {[][]impl.Cost{block[2:], block}, 4, []int64{0, 0}, 10}, {[][]impl.Cost{block[2:], block}, 3, none, 0},
		{[][]impl.Cost{blockOf(0, 5)}, 0, []int64{0}, 5}, {[][]impl.Cost{blockOf(0, minus)}, 0, []int64{0}, 0}, {[][]impl.Cost{blockOf(512, 5)}, 512, []int64{0}, 5}, {[][]impl.Cost{blockOf(512, 5)}, 511, none, 0}, {[][]impl.Cost{blockOf(512, 5), blockOf(0, 1)}, 512, []int64{0, 0}, 6}, {[][]impl.Cost{blockOf(512, 5), blockOf(1, 1)}, 512, none, 0}, {list(8, blockOf(64, 1)), 512, list(8, int64(0)), 8}, {list(8, blockOf(64, 1)), 511, none, 0}, {list(8, blockOf(0, 1)), 0, list(8, int64(0)), 8},
		{[][]impl.Cost{evenBlock(16, 34), evenBlock(16, 34)}, 510, []int64{15, 0}, 15}, {list(8, evenBlock(16, 1)), 16, []int64{15, 1, 0, 0, 0, 0, 0, 0}, 104}, {list(8, evenBlock(16, 1)), 120, list(8, int64(15)), 0}, // all are equally good
		{[][]impl.Cost{blockOf(0, most, 1, 1), blockOf(0, most, 1, 2)}, 2, []int64{1, 1}, 3}, {[][]impl.Cost{blockOf(0, most, 1, 1), blockOf(0, most, 1, 2)}, 1, []int64{1, 0}, most}, {[][]impl.Cost{blockOf(0, most, 1, 1), blockOf(0, most, 1, 2)}, 0, none, 0}, {[][]impl.Cost{blockOf(0, most), blockOf(0, most, 9, 1)}, 9, []int64{0, 1}, most}, {[][]impl.Cost{blockOf(0, most), blockOf(0, most, 9, 1)}, 8, none, 0},
		// Sums that are rounded to the same are equally good.
		{[][]impl.Cost{blockOf(0, 0x1p24), blockOf(0, 1, 1, 0.5)}, 1, []int64{0, 0}, 0x1p24}, {[][]impl.Cost{blockOf(0, 1, 1, 0.5), blockOf(0, 0x1p24)}, 1, []int64{1, 0}, 0x1p24}, {[][]impl.Cost{blockOf(0, 1), blockOf(0, 1), blockOf(0, 0x1p24)}, 0, []int64{0, 0, 0}, 0x1p24 + 2}, {[][]impl.Cost{blockOf(0, 0x1p24), blockOf(0, 1), blockOf(0, 1)}, 0, []int64{0, 0, 0}, 0x1p24},
	} {
		what := fmt.Sprint("BestCuts of ", c.blocks, c.budget)
		cuts, miss, ok := impl.BestCuts(c.blocks, c.budget)
		if c.cuts == nil {
			checkNone(t, what, ok, cuts, miss)
			continue
		}
		checkIntegers(t, what, cuts, ok, c.cuts)
		checkFound(t, what, miss, ok, bitsOf(c.miss), true)
	}
}

// bitsOfCuts returns the sum of the Bits of cuts.
func bitsOfCuts(blocks [][]impl.Cost, cuts []int64) int64 {
	var sum int64
	for k, i := range cuts {
		sum += blocks[k][i].Bits
	}
	return sum
}

func checkBestCuts(t *testing.T, blocks [][]impl.Cost, budget int64, want toldCuts) {
	t.Helper()
	what := fmt.Sprint("BestCuts of ", blocks, budget)
	cuts, miss, ok := impl.BestCuts(blocks, budget)
	if !want.found || !finite([]float32{want.sum}) {
		checkNone(t, what, ok, cuts, miss)
		return
	}
	checkIntegers(t, what, cuts, ok, want.cuts)
	checkFound(t, what, miss, ok, bitsOf(want.sum), true)
	if bitsOfCuts(blocks, cuts) > budget {
		t.Error(what, " does not keep the budget: ", cuts)
	}
}

func TestPromise8BestCuts(t *testing.T) {
	r := rand.New(rand.NewPCG(4, 7))
	failures := 0
	for range 12 {
		for count := 1; count <= 8; count++ {
			for _, most := range []int{12, 60, 512} {
				blocks, kept := anyBlocks(r, count, most, r.IntN(2) == 0), map[toldPlace]toldCuts{}
				for _, budget := range []int64{0, 1, 2, r.Int64N(20), r.Int64N(200), r.Int64N(513), 511, 512} {
					want := toldBestCuts(blocks, budget, kept)
					checkBestCuts(t, blocks, budget, want)
					failures += oneIf(!want.found)
				}
			}
		}
	}
	if failures < 100 {
		t.Error("only ", failures, " budgets are too small")
	}
	for _, one := range blocksAtLimits() {
		for _, other := range blocksAtLimits() {
			for _, budget := range []int64{0, 1, 3, 9, 255, 511, 512} {
				blocks := [][]impl.Cost{one, other}
				checkBestCuts(t, blocks, budget, toldBestCuts(blocks, budget, map[toldPlace]toldCuts{}))
			}
		}
	}
}

// No other cuts that keep the budget miss less, where sums are exact.
func TestPromise8NoCutsAreBetter(t *testing.T) {
	r := rand.New(rand.NewPCG(5, 7))
	for range 300 {
		blocks := anyBlocks(r, 1+r.IntN(3), 20, true)
		for budget := int64(0); budget <= 60; budget += 1 + r.Int64N(9) {
			least, found := toldLeast(blocks, budget)
			cuts, miss, ok := impl.BestCuts(blocks, budget)
			if ok != found || ok && (float64(miss) != least || bitsOfCuts(blocks, cuts) > budget || len(cuts) != len(blocks)) {
				t.Error("BestCuts of ", blocks, budget, ": ", cuts, miss, ok, ", want ", least, found)
			}
		}
	}
}

// The cuts of a slope are the best ones for as many bits as they take.
func TestPromise8CutsOfSlopesAreBest(t *testing.T) {
	r := rand.New(rand.NewPCG(6, 7))
	for range 300 {
		blocks := anyBlocks(r, 1+r.IntN(8), 30, true)
		cuts, bits, miss, ok := impl.SlopeCuts(blocks, float32(r.IntN(8))/4)
		_, least, also := impl.BestCuts(blocks, bits)
		if !ok || !also || miss != least {
			t.Error("SlopeCuts of ", blocks, ": ", cuts, miss, ok, ", but BestCuts: ", least, also)
		}
		for k, i := range cuts {
			if edge, _ := impl.EdgeCosts(blocks[k]); !slices.Contains(edge, i) && !onEdge(blocks[k], edge, i) {
				t.Error("SlopeCuts of ", blocks[k], " takes ", i, ", which is behind ", edge)
			}
		}
	}
}

// onEdge reports whether a cost lies on the line between two neighbours of an edge.
func onEdge(block []impl.Cost, edge []int64, i int64) bool {
	at, _ := slices.BinarySearch(edge, i)
	from, to, c := block[edge[at-1]], block[edge[at]], block[i]
	return (from.Miss-c.Miss)*float32(to.Bits-from.Bits) == (from.Miss-to.Miss)*float32(c.Bits-from.Bits)
}
