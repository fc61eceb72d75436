package tests

import (
	"encoding/binary"
	"math"
	"math/rand/v2"
	"slices"
	"strings"

	"loop.example/g01317/impl"
)

// The rounds of chapter 7 once more, in another way: the first one of several is
// told by going from the last one to the first one, sums of cuts by recursion,
// lines and grids by functions of their indices, and takes by slices of bytes.
// What is not told is infinite or no number.

// toldEdge goes from the last cost to the first one.
func toldEdge(block []impl.Cost) []int64 {
	edge := []int64{0}
	for from := 0; from != len(block)-1; from = int(edge[len(edge)-1]) {
		best, most := 0, float32(-1)
		for k := len(block) - 1; k > from; k-- {
			fall := less32(block[from].Miss, block[k].Miss)
			if slope := divided32(fall, float32(block[k].Bits-block[from].Bits)); slope > most {
				best, most = k, slope
			}
		}
		edge = append(edge, int64(best))
	}
	return edge
}

func toldWeighed(c impl.Cost, slope float32) float32 {
	return plus32(c.Miss, times32(slope, float32(c.Bits)))
}

// toldSlopeCuts has a sum of Misses that may be infinite.
func toldSlopeCuts(blocks [][]impl.Cost, slope float32) ([]int64, int64, float32) {
	cuts, bits, misses := []int64{}, int64(0), []float32{}
	for _, block := range blocks {
		best := len(block) - 1
		for i := best; i >= 0; i-- {
			if !(toldWeighed(block[i], slope) > toldWeighed(block[best], slope)) {
				best = i
			}
		}
		cuts, bits, misses = append(cuts, int64(best)), bits+block[best].Bits, append(misses, block[best].Miss)
	}
	return cuts, bits, toldSum(misses...)
}

type toldCuts struct {
	cuts  []int64
	sum   float32
	found bool
}

type toldPlace struct {
	blocks int
	budget int64
}

// toldBestCuts cuts the last block in all ways, and those before it once more
// for what is left. What has been told for fewer blocks is kept.
func toldBestCuts(blocks [][]impl.Cost, budget int64, kept map[toldPlace]toldCuts) toldCuts {
	if len(blocks) == 0 {
		return toldCuts{found: true}
	}
	place := toldPlace{len(blocks), budget}
	if told, ok := kept[place]; ok {
		return told
	}
	best, rest := toldCuts{}, len(blocks)-1
	for i := len(blocks[rest]) - 1; i >= 0; i-- {
		c := blocks[rest][i]
		if c.Bits > budget {
			continue
		}
		before := toldBestCuts(blocks[:rest], budget-c.Bits, kept)
		if sum := plus32(before.sum, c.Miss); before.found && (!best.found || sum <= best.sum) {
			best = toldCuts{append(slices.Clone(before.cuts), int64(i)), sum, true}
		}
	}
	kept[place] = best
	return best
}

// toldLeast goes through all cuts of blocks, and returns the least sum of Misses
// for a budget, as a 64-bit number, and false if the budget is too small.
func toldLeast(blocks [][]impl.Cost, budget int64) (float64, bool) {
	if len(blocks) == 0 {
		return 0, budget >= 0
	}
	least, found := math.Inf(1), false
	for _, c := range blocks[0] {
		if rest, ok := toldLeast(blocks[1:], budget-c.Bits); ok {
			least, found = min(least, rest+float64(c.Miss)), true
		}
	}
	return least, found
}

// lineAt returns a number of a line, and +0 for its ends.
func lineAt(line []float32, i int) float32 {
	if i < 0 || i >= len(line) {
		return 0
	}
	return line[i]
}

func toldSquare(step float32) float32 { return times32(step, step) }

func toldResidual(u, f []float32, step float32) []float32 {
	left := []float32{}
	for i := range u {
		bend := less32(less32(times32(2, u[i]), lineAt(u, i-1)), lineAt(u, i+1))
		left = append(left, less32(f[i], divided32(bend, toldSquare(step))))
	}
	return left
}

// toldSmooth makes a new line each time, from the first number to the last one.
func toldSmooth(u, f []float32, step float32, times int64) []float32 {
	for range times {
		next := []float32{}
		for i := range u {
			sum := plus32(times32(toldSquare(step), f[i]), lineAt(next, i-1))
			next = append(next, divided32(plus32(sum, lineAt(u, i+1)), 2))
		}
		u = next
	}
	return u
}

func toldCoarseLine(list []float32) []float32 {
	coarse := []float32{}
	for i := 1; i < len(list); i += 2 {
		coarse = append(coarse, plus32(plus32(times32(0.25, list[i-1]), times32(0.5, list[i])), times32(0.25, list[i+1])))
	}
	return coarse
}

func toldFineLine(list []float32) []float32 {
	fine := []float32{}
	for j := 0; j <= len(list); j++ {
		fine = append(fine, divided32(plus32(lineAt(list, j-1), lineAt(list, j)), 2))
		if j < len(list) {
			fine = append(fine, list[j])
		}
	}
	return fine
}

// toldCycle is infinite where any line on the way is not finite.
func toldCycle(u, f []float32, step float32, before, behind int64) []float32 {
	if len(f) == 1 {
		return []float32{divided32(times32(toldSquare(step), f[0]), 2)}
	}
	if step > 1e38 {
		return numbersOf(infinityBits)
	}
	u = toldSmooth(u, f, step, before)
	left := toldResidual(u, f, step)
	if !finite(u) || !finite(left) {
		return numbersOf(infinityBits)
	}
	coarse := toldCoarseLine(left)
	e := toldCycle(make([]float32, len(coarse)), coarse, times32(2, step), before, behind)
	if !finite(e) {
		return e
	}
	more := toldFineLine(e)
	sum := lessThan(u, func(i int) float32 { return -more[i] })
	if !finite(more) || !finite(sum) {
		return numbersOf(infinityBits)
	}
	return toldSmooth(sum, f, step, behind)
}

// toldCycles returns no line if no cycle comes near enough.
func toldCycles(f []float32, step, near float32, most int64) ([]float32, int64) {
	u := make([]float32, len(f))
	for made := int64(1); made <= most; made++ {
		if u = toldCycle(u, f, step, 2, 2); !finite(u) {
			return nil, 0
		}
		left := sizesOf(toldResidual(u, f, step))
		if !finite(left) {
			return nil, 0
		}
		if slices.Max(left) <= near {
			return u, made
		}
	}
	return nil, 0
}

// toldSolve goes to the last number and back again.
func toldSolve(f []float32, step float32) []float32 {
	u := make([]float32, len(f))
	var solve func(i int, d, g float32)
	solve = func(i int, d, g float32) {
		u[i] = divided32(g, d)
		if i+1 < len(f) {
			m := divided32(-1, d)
			solve(i+1, plus32(2, m), less32(times32(toldSquare(step), f[i+1]), times32(m, g)))
			u[i] = divided32(plus32(g, u[i+1]), d)
		}
	}
	solve(0, 2, times32(toldSquare(step), f[0]))
	return u
}

// toldFar tells how far away those are that a number of a grid is told by.
func toldFar(i int) int {
	far := 1
	for i%(2*far) == 0 {
		far *= 2
	}
	return far
}

func toldSurplus(grid []float32) []float32 {
	surplus := []float32{grid[0]}
	for i := 1; i < len(grid)-1; i++ {
		half := divided32(plus32(grid[i-toldFar(i)], grid[i+toldFar(i)]), 2)
		surplus = append(surplus, less32(grid[i], half))
	}
	return append(surplus, grid[len(grid)-1])
}

// toldGrid fills the middle between two ends, and then both halves.
func toldGrid(surplus []float32) []float32 {
	grid := slices.Clone(surplus)
	var fill func(from, to int)
	fill = func(from, to int) {
		if at := (from + to) / 2; at != from {
			grid[at] = plus32(surplus[at], divided32(plus32(grid[from], grid[to]), 2))
			fill(from, at)
			fill(at, to)
		}
	}
	fill(0, len(grid)-1)
	return grid
}

func toldThin(grid []float32, limit float32) ([]float32, int64) {
	surplus, count := toldSurplus(grid), int64(0)
	if !finite(surplus) {
		return surplus, 0
	}
	for i := 1; i < len(surplus)-1; i++ {
		if size32(surplus[i]) > limit {
			count++
		} else {
			surplus[i] = 0
		}
	}
	return toldGrid(surplus), count
}

// toldFill is infinite where any list on the way is not finite.
func toldFill(x []float32, known []bool, p impl.Pair, levels int64, limit, fade float32, turns int64) []float32 {
	some := []float32{}
	for i, is := range known {
		if is {
			some = append(some, x[i])
		}
	}
	restored := func(other func(i int) float32) []float32 {
		y := []float32{}
		for i, is := range known {
			if is {
				y = append(y, x[i])
			} else {
				y = append(y, other(i))
			}
		}
		return y
	}
	y := restored(func(int) float32 { return toldMean(some) })
	for range turns {
		b := toldSplitLevels(y, p, levels)
		if !finite(y) || !finite(b.Coarse) || !allFinite(b.Details) {
			return numbersOf(infinityBits)
		}
		joined := toldJoinLevels(toldShrinkBands(b, list(int(levels), limit), false), p)
		if !finite(joined) {
			return joined
		}
		y, limit = restored(func(i int) float32 { return joined[i] }), times32(limit, fade)
	}
	return y
}

func toldPack(x []float32) string {
	text, before := []byte{}, uint32(0)
	for _, y := range x {
		four := binary.LittleEndian.AppendUint32(nil, bitsOf(y)^before)
		left := strings.TrimRight(string(four), "\x00")
		text = append(append(text, byte(4-len(left))), left...)
		before = bitsOf(y)
	}
	return string(text)
}

func toldCheck(text []byte) uint16 {
	check := 0
	for _, b := range text {
		check = (853*check + int(b) + 139) % 65003
	}
	return uint16(check)
}

// toldStored stores what need not be a take.
func toldStored(name string, rate int, packed string) string {
	text := append([]byte("TAK1"), byte(len(name)))
	text = binary.LittleEndian.AppendUint16(append(text, name...), uint16(rate))
	text = append(binary.LittleEndian.AppendUint16(text, uint16(len(packed))), packed...)
	return string(binary.LittleEndian.AppendUint16(text, toldCheck(text)))
}

func toldTake(t impl.Take) string { return toldStored(t.Name, int(t.Rate), toldPack(t.Values)) }

func toldTakes(all []impl.Take) string {
	text := ""
	for _, t := range all {
		text += toldTake(t)
	}
	return text
}

// anyBlock has costs with Bits of at most most, whose Misses are integers, or
// numbers of all kinds.
func anyBlock(r *rand.Rand, count, most int, integers bool) []impl.Cost {
	bits := r.Perm(most + 1)[:count]
	slices.Sort(bits)
	misses := map[float32]bool{}
	for len(misses) < count {
		if integers {
			misses[float32(r.IntN(2*count))] = true
		} else {
			misses[size32([]float32{middleNumber(r), lightNumbers(r, 1)[0], finiteNumber(r)}[r.IntN(3)])] = true
		}
	}
	block := []impl.Cost{}
	for miss := range misses {
		block = append(block, impl.Cost{Miss: miss})
	}
	slices.SortFunc(block, func(a, b impl.Cost) int { return oneIf(a.Miss < b.Miss) - oneIf(a.Miss > b.Miss) })
	for i := range block {
		block[i].Bits = int64(bits[i])
	}
	return block
}

func anyBlocks(r *rand.Rand, blocks, most int, integers bool) [][]impl.Cost {
	all := [][]impl.Cost{}
	for range blocks {
		all = append(all, anyBlock(r, 1+r.IntN(min(16, most+1)), most, integers))
	}
	return all
}

func anyName(r *rand.Rand) string {
	name := make([]byte, 1+r.IntN(8))
	for i := range name {
		name[i] = byte('a' + r.IntN(26))
	}
	return string(name)
}

// anyValues has numbers of any bits, some of which are like those before them.
func anyValues(r *rand.Rand, count int) []float32 {
	x, bits := []float32{}, uint32(0)
	for range count {
		switch r.IntN(4) {
		case 0:
			bits = r.Uint32()
		case 1:
			bits ^= r.Uint32() >> r.IntN(32)
		case 2:
			bits = oddBits()[r.IntN(len(oddBits()))]
		}
		x = append(x, number(bits))
	}
	return x
}

func anyTake(r *rand.Rand, count int) impl.Take {
	return impl.Take{Name: anyName(r), Rate: 1 + r.Int64N(65535), Values: anyValues(r, count)}
}
