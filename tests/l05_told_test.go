package tests

import (
	"math"
	"math/rand/v2"

	"loop.example/g01317/impl"
)

// The formulas of chapter 5 once more, in another way: medians are told by
// counting, the first one of several by going from the last one to the first
// one, pieces are lists that are split, and each 32-bit operation is a 64-bit
// one that is narrowed. What is not told is infinite or no number.

func size32(x float32) float32 { return number(math.Float32bits(x) &^ minusZeroBits) }

func sizesOf(list []float32) []float32 {
	sizes := []float32{}
	for _, x := range list {
		sizes = append(sizes, size32(x))
	}
	return sizes
}

func lessThan(list []float32, by func(i int) float32) []float32 {
	left := []float32{}
	for i, x := range list {
		left = append(left, less32(x, by(i)))
	}
	return left
}

func toldMean(list []float32) float32 { return divided32(toldSum(list...), float32(len(list))) }

// toldMedian is the number before which as many others come as its index tells.
func toldMedian(list []float32) float32 {
	for i, x := range list {
		before := 0
		for j, y := range list {
			if y < x || y == x && j < i {
				before++
			}
		}
		if before == (len(list)-1)/2 {
			return x
		}
	}
	return number(notANumberBits)
}

func toldSpread(list []float32) float32 {
	middle := toldMedian(list)
	far := sizesOf(lessThan(list, func(int) float32 { return middle }))
	if !finite(far) {
		return number(infinityBits)
	}
	return times32(number(0x3fbdc5d6), toldMedian(far))
}

func toldNoise(b impl.Bands) float32 {
	return divided32(toldMedian(sizesOf(b.Details[0])), number(0x3f2cac08))
}

// toldShrink takes limits away from sizes, and then puts the sign back.
func toldShrink(x, limit float32, hard bool) float32 {
	size := size32(x)
	switch {
	case size <= limit:
		return 0
	case !hard:
		size = less32(size, limit)
	}
	return float32(math.Copysign(float64(size), float64(x)))
}

func toldShrinkList(list []float32, limit float32, hard bool) []float32 {
	small := []float32{}
	for _, x := range list {
		small = append(small, toldShrink(x, limit, hard))
	}
	return small
}

func toldShrinkBands(b impl.Bands, limits []float32, hard bool) impl.Bands {
	small := impl.Bands{Coarse: b.Coarse}
	for level, limit := range limits {
		small.Details = append(small.Details, toldShrinkList(b.Details[level], limit, hard))
	}
	return small
}

func toldPlainLimit(noise float32, count int64) float32 {
	if count == 1 {
		return times32(noise, 0)
	}
	log := number(narrow(formulaLogarithm(float32(count))))
	return times32(noise, number(narrow(rootOf(wide(float64(times32(2, log)))))))
}

func toldRisk(list []float32, noise, limit float32) float32 {
	great, least := 0, []float32{}
	for _, x := range list {
		if size32(x) > limit {
			great++
			x = limit
		}
		least = append(least, times32(x, x))
	}
	small := len(list) - great
	return plus32(times32(times32(noise, noise), float32(great-small)), toldSum(least...))
}

// toldBestLimit has no risk that is told if one is not.
func toldBestLimit(list []float32, noise float32) (float32, float32) {
	limits := append([]float32{0}, sizesOf(list)...)
	best, least := float32(0), number(infinityBits)
	for k := len(limits) - 1; k >= 0; k-- {
		risk := toldRisk(list, noise, limits[k])
		if !finite([]float32{risk}) {
			return 0, risk
		}
		if risk <= least {
			best, least = limits[k], risk
		}
	}
	return best, least
}

// toldBlocks tells for each number its block by a quotient.
func toldBlocks(list []float32, block int64, limit float32) []float32 {
	blocks := map[int64][]float32{}
	for i, x := range list {
		blocks[int64(i)/block] = append(blocks[int64(i)/block], x)
	}
	left := []float32{}
	for i, x := range list {
		part := blocks[int64(i)/block]
		energy, quiet := toldPower(part), times32(times32(limit, limit), float32(len(part)))
		if energy <= quiet {
			left = append(left, 0)
		} else {
			left = append(left, times32(x, less32(1, divided32(quiet, energy))))
		}
	}
	return left
}

func toldDenoise(list []float32, p impl.Pair, levels int64, hard bool) []float32 {
	b := toldSplitLevels(list, p, levels)
	limits := make([]float32, levels)
	for level := range limits {
		limits[level] = toldPlainLimit(toldNoise(b), int64(len(list)))
	}
	if !finite(b.Coarse) || !allFinite(b.Details) || !finite(limits) {
		return numbersOf(infinityBits)
	}
	return toldJoinLevels(toldShrinkBands(b, limits, hard), p)
}

func toldGain(before, behind []float32) float32 {
	mean := toldMean(append(append([]float32{}, before...), behind...))
	gain := float32(0)
	for _, part := range [][]float32{before, behind} {
		far := less32(toldMean(part), mean)
		gain = plus32(gain, times32(times32(float32(len(part)), far), far))
	}
	return gain
}

// toldBreak has no gain that is told if one is not.
func toldBreak(list []float32) (int, float32) {
	best, most := 0, float32(0)
	for k := len(list) - 1; k >= 1; k-- {
		gain := toldGain(list[:k], list[k:])
		if !finite([]float32{gain}) {
			return 0, gain
		}
		if gain >= most {
			best, most = k, gain
		}
	}
	return best, most
}

// toldBreaks keeps the pieces, in order, and tells all breaks in the end.
func toldBreaks(list []float32, least float32, most int64) ([]int64, bool) {
	pieces := [][]float32{list}
	for int64(len(pieces)) <= most {
		best, at, gain := -1, 0, float32(0)
		for k := len(pieces) - 1; k >= 0; k-- {
			if len(pieces[k]) < 2 {
				continue
			}
			place, more := toldBreak(pieces[k])
			if !finite([]float32{more}) {
				return nil, false
			}
			if best < 0 || more >= gain {
				best, at, gain = k, place, more
			}
		}
		if best < 0 || gain < least {
			break
		}
		next := append([][]float32{}, pieces[:best]...)
		next = append(next, pieces[best][:at], pieces[best][at:])
		pieces = append(next, pieces[best+1:]...)
	}
	breaks, at := []int64{}, 0
	for _, piece := range pieces[:len(pieces)-1] {
		at += len(piece)
		breaks = append(breaks, int64(at))
	}
	return breaks, true
}

// toldMeans looks for the piece of each number.
func toldMeans(list []float32, breaks []int64) []float32 {
	means := []float32{}
	for i := range list {
		from, to := 0, len(list)
		for _, at := range breaks {
			if at := int(at); at <= i {
				from = max(from, at)
			} else {
				to = min(to, at)
			}
		}
		means = append(means, toldMean(list[from:to]))
	}
	return means
}

func toldSeason(list []float32, period int64) []float32 {
	season := []float32{}
	for j := range period {
		turn := []float32{}
		for i := j; i < int64(len(list)); i += period {
			turn = append(turn, list[i])
		}
		season = append(season, less32(toldMean(turn), toldMean(list)))
	}
	return season
}

func toldWithoutSeason(list []float32, period int64) []float32 {
	season := toldSeason(list, period)
	return lessThan(list, func(i int) float32 { return season[int64(i)%period] })
}

func toldTrend(list []float32) (float32, float32) {
	n := float32(len(list))
	k, y, kk, ky := []float32{}, []float32{}, []float32{}, []float32{}
	for i, x := range list {
		k, y, kk, ky = append(k, float32(i)), append(y, x), append(kk, float32(i*i)), append(ky, times32(float32(i), x))
	}
	over := less32(times32(n, toldSum(ky...)), times32(toldSum(k...), toldSum(y...)))
	under := less32(times32(n, toldSum(kk...)), times32(toldSum(k...), toldSum(k...)))
	slope := divided32(over, under)
	return slope, divided32(less32(toldSum(y...), times32(slope, toldSum(k...))), n)
}

// toldWeight is e to the power of -0.5 u u, or nothing where this is far from 0.
func toldWeight(time, at, wide32 float32) float32 {
	u := divided32(less32(time, at), wide32)
	power := times32(times32(-0.5, u), u)
	if power < -200 {
		return 0
	}
	return number(narrow(formulaExponential(power)))
}

func toldKernelMean(times, values []float32, at, wide32 float32) float32 {
	weights, weighed := []float32{}, []float32{}
	for i, time := range times {
		w := toldWeight(time, at, wide32)
		weights, weighed = append(weights, w), append(weighed, times32(w, values[i]))
	}
	if toldSum(weights...) == 0 {
		return number(notANumberBits)
	}
	return divided32(toldSum(weighed...), toldSum(weights...))
}

// toldAtom puts a kernel into a list that is long enough on both sides, and cuts.
func toldAtom(count int64, kernel []complex64, place int64, size float32) []float32 {
	reach := int64(len(kernel) / 2)
	long := make([]float32, count+2*int64(len(kernel)))
	for k, x := range kernel {
		long[place+reach+1+int64(k)] = real(x)
	}
	cut := long[2*reach+1 : 2*reach+1+count]
	root, atom := number(narrow(rootOf(wide(float64(toldPower(cut)))))), []float32{}
	for _, x := range cut {
		atom = append(atom, times32(divided32(x, root), size))
	}
	return atom
}

// toldPursueOnce goes through all atoms from the last one to the first one.
func toldPursueOnce(list, scales []float32) (impl.Atom, []float32) {
	best, count := impl.Atom{}, int64(len(list))
	for k := len(scales) - 1; k >= 0; k-- {
		kernel := toldKernel(scales[k])
		for place := count - 1; place >= 0; place-- {
			products := []float32{}
			for i, x := range toldAtom(count, kernel, place, 1) {
				products = append(products, times32(x, list[i]))
			}
			if q := toldSum(products...); size32(q) >= size32(best.Size) {
				best = impl.Atom{Place: place, Scale: scales[k], Size: q}
			}
		}
	}
	taken := toldAtom(count, toldKernel(best.Scale), best.Place, best.Size)
	return best, lessThan(list, func(i int) float32 { return taken[i] })
}

func toldPursue(list, scales []float32, count int64) ([]impl.Atom, []float32) {
	atoms := []impl.Atom{}
	for range count {
		atom, left := toldPursueOnce(list, scales)
		atoms, list = append(atoms, atom), left
	}
	return atoms, list
}

func toldFromAtoms(count int64, atoms []impl.Atom) []float32 {
	lists := [][]float32{}
	for _, a := range atoms {
		lists = append(lists, toldAtom(count, toldKernel(a.Scale), a.Place, a.Size))
	}
	sum := []float32{}
	for i := range count {
		column := []float32{}
		for _, list := range lists {
			column = append(column, list[i])
		}
		sum = append(sum, toldSum(column...))
	}
	return sum
}

func toldMiss(a, b []float32) float32 {
	return divided32(toldPower(lessThan(a, func(i int) float32 { return b[i] })), float32(len(a)))
}

func toldClearness(a, b []float32) float32 {
	mean, miss := divided32(toldPower(a), float32(len(a))), toldMiss(a, b)
	quotient := divided32(mean, miss)
	if !(mean > 0 && miss > 0 && quotient > 0) || !finite([]float32{quotient}) {
		return number(infinityBits)
	}
	return times32(number(0x408af967), number(narrow(formulaLogarithm(quotient))))
}

// anyAtom has any place of a list, a scale of any kind and a size.
func anyAtom(r *rand.Rand, count int64, size float32) impl.Atom {
	return impl.Atom{Place: r.Int64N(count), Scale: manyScales(r, 5)[r.IntN(5)], Size: size}
}
