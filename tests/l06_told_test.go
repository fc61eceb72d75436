package tests

import (
	"fmt"
	"math"
	"math/rand/v2"
	"strconv"
	"strings"

	"loop.example/g01317/impl"
)

// The codes of chapter 6 once more, in another way: planes are places in binary
// texts, bits are texts too, trees are told by going up to their roots, and the
// last one of several by going from the last one to the first one.

// bitsOfText returns the bits of a text, with others in the unused capacity.
func bitsOfText(text string) []bool {
	bits := make([]bool, 0, len(text)+5)
	for _, digit := range text {
		bits = append(bits, digit == '1')
	}
	for k := len(bits); k < cap(bits); k++ {
		bits[:cap(bits)][k] = true
	}
	return bits
}

func textOfBits(bits []bool) string {
	text := make([]byte, len(bits))
	for i, bit := range bits {
		if text[i] = '0'; bit {
			text[i] = '1'
		}
	}
	return string(text)
}

func codedOf(count, top int64, text string) impl.Coded {
	return impl.Coded{Count: count, Top: top, Bits: bitsOfText(text)}
}

func codedSeen(c impl.Coded) string { return seen(c.Count, c.Top, textOfBits(c.Bits)) }

// toldDigits returns the binary digits of an absolute value, with zeros in front.
func toldDigits(n int64, count int) string {
	digits := strings.TrimLeft(strconv.FormatInt(n, 2), "-0")
	return strings.Repeat("0", max(count-len(digits), 0)) + digits
}

func toldPlanes(list []int64) int64 {
	most := 0
	for _, n := range list {
		most = max(most, len(toldDigits(n, 0)))
	}
	return int64(most)
}

func toldPlane(list []int64, plane int64) string {
	text := ""
	for _, n := range list {
		text += toldDigits(n, 24)[23-plane:][:1]
	}
	return text
}

// toldBits are those of planes of at least least.
func toldBits(list []int64, least int64) string {
	top, text := int(toldPlanes(list)), ""
	for at := 0; at < top-int(least); at++ {
		for _, n := range list {
			digits := toldDigits(n, top)
			text += digits[at:][:1]
			if strings.Index(digits, "1") == at {
				text += map[bool]string{true: "1", false: "0"}[n < 0]
			}
		}
	}
	return text
}

// toldIntegers writes the digits of each number down, and reads them in the end.
func toldIntegers(count, top int64, text string) ([]int64, bool) {
	next := func(otherwise string) string {
		if text == "" {
			return otherwise
		}
		digit := text[:1]
		text = text[1:]
		return digit
	}
	numbers := make([]string, count)
	for range top {
		for i := range numbers {
			digit := next("0")
			if digit == "1" && strings.Trim(numbers[i], "0") == "" {
				sign := map[string]string{"0": "+", "1": "-", "": "?"}[next("")]
				numbers[i] = sign + numbers[i]
			}
			numbers[i] += digit
		}
	}
	list := []int64{}
	for _, number := range numbers {
		if number == "" || number[0] == '?' {
			number = "0"
		}
		n, err := strconv.ParseInt(number, 2, 64)
		if err != nil || n > 1000000 || n < -1000000 {
			return nil, false
		}
		list = append(list, n)
	}
	return list, text == ""
}

// toldParents goes through the bands, each of which is a list of its indices.
func toldParents(n, levels int64) []int64 {
	bands := toldBands(make([]int64, n), levels, toldHalves[int64])
	var at int64
	for k := len(bands) - 1; k >= 0; k-- {
		for i := range bands[k] {
			bands[k][i] = at
			at++
		}
	}
	parents := make([]int64, n)
	for k, band := range bands {
		for i, index := range band {
			if k+2 >= len(bands) {
				parents[index] = -1
			} else if next := bands[k+1]; i/2 < len(next) {
				parents[index] = next[i/2]
			} else {
				parents[index] = next[len(next)-1]
			}
		}
	}
	return parents
}

// toldInTree goes up from an index, until it comes to the root or has no parent.
func toldInTree(parents []int64, root, i int64) bool {
	for i != root && i != -1 {
		i = parents[i]
	}
	return i == root
}

func toldTree(n, levels, root int64) []int64 {
	tree, parents := []int64{}, toldParents(n, levels)
	for i := range n {
		if toldInTree(parents, root, i) {
			tree = append(tree, i)
		}
	}
	return tree
}

// toldZeroTree reports whether a whole tree has only digits 0.
func toldZeroTree(list []int64, parents []int64, root, plane int64) bool {
	for i, n := range list {
		if toldInTree(parents, root, int64(i)) && math.Abs(float64(n)) >= math.Pow(2, float64(plane)) {
			return false
		}
	}
	return true
}

func toldZeroTrees(list []int64, levels, plane int64) []int64 {
	roots, parents := []int64{}, toldParents(int64(len(list)), levels)
	for i, parent := range parents {
		if toldZeroTree(list, parents, int64(i), plane) && (parent == -1 || !toldZeroTree(list, parents, parent, plane)) {
			roots = append(roots, int64(i))
		}
	}
	return roots
}

func toldScaleList(list []float32, step float32) ([]int64, bool) {
	integers := []int64{}
	for _, x := range list {
		whole := math.Trunc(float64(divided32(x, step)))
		if math.Abs(whole) > 1000000 {
			return nil, false
		}
		integers = append(integers, int64(whole))
	}
	return integers, true
}

func toldListOfScale(list []int64, step, share float32) []float32 {
	told := []float32{}
	for _, n := range list {
		size := times32(step, plus32(float32(math.Abs(float64(n))), share))
		told = append(told, map[int]float32{-1: -size, 0: 0, 1: size}[signOf(n)])
	}
	return told
}

func signOf(n int64) int { return int(n>>63) | int(uint64(-n)>>63) }

func toldZigZag(n int64) int64 { return n<<1 ^ n>>63 }

func toldRice(list []int64, k int64) string {
	text := ""
	for _, n := range list {
		z, whole := toldZigZag(n), int64(math.Pow(2, float64(k)))
		text += strings.Repeat("1", int(z/whole)) + "0"
		if k > 0 {
			text += fmt.Sprintf("%0*b", int(k), z%whole)
		}
	}
	return text
}

func toldRiceLong(list []int64, k int64) int64 {
	var long int64
	for _, n := range list {
		long += int64(math.Floor(float64(toldZigZag(n))/math.Pow(2, float64(k)))) + 1 + k
	}
	return long
}

func toldLog(x float32) float32 {
	if x == 1 {
		return 0
	}
	return number(narrow(formulaLogarithm(x)))
}

// toldEntropy counts each number once more where no other one like it is before it.
func toldEntropy(list []int64) float32 {
	products := []float32{}
	for i, n := range list {
		count, before := 0, false
		for j, m := range list {
			if m == n {
				count++
				before = before || j < i
			}
		}
		if !before {
			p := divided32(float32(count), float32(len(list)))
			products = append(products, times32(p, toldLog(p)))
		}
	}
	return divided32(-toldSum(products...), number(0x3f317218))
}

// toldRates takes what is less than a power of 2 away from integers. What is not
// told has an infinite miss.
func toldRates(s impl.Scheme, list []float32, levels int64, step float32) ([]int64, []float32) {
	bands, flat := toldBands(list, levels, func(x []float32) ([]float32, []float32) { return toldLiftOnce(s, x) }), []float32{}
	for _, band := range bands {
		flat = append(append([]float32{}, band...), flat...)
	}
	integers, ok := toldScaleList(flat, step)
	if !ok || !finite(flat) {
		return nil, numbersOf(infinityBits)
	}
	bits, misses := []int64{}, []float32{}
	for plane := toldPlanes(integers); plane >= 0; plane-- {
		coarse := []int64{}
		for _, n := range integers {
			coarse = append(coarse, n-n%(1<<plane))
		}
		rest := toldListOfScale(coarse, step, 0.5)
		told := make([][]float32, len(bands))
		for k := len(bands) - 1; k >= 0; k-- {
			told[k], rest = rest[:len(bands[k])], rest[len(bands[k]):]
		}
		miss := toldMiss(list, toldDropDeep(s, told))
		bits, misses = append(bits, int64(len(toldBits(integers, plane)))), append(misses, number(narrow(rootOf(wide(float64(miss))))))
		if !allFinite(told) || !finite([]float32{miss}) {
			return nil, numbersOf(infinityBits)
		}
	}
	return bits, misses
}

// toldHull goes from the last point to the first one.
func toldHull(bits []int64, misses []float32) []int64 {
	hull := []int64{0}
	for {
		from, best, most := hull[len(hull)-1], int64(0), float32(0)
		for k := int64(len(bits)) - 1; k > from; k-- {
			if slope := divided32(less32(misses[from], misses[k]), float32(bits[k]-bits[from])); slope > most {
				best, most = k, slope
			}
		}
		if best == 0 {
			return hull
		}
		hull = append(hull, best)
	}
}

// manyIntegers are lists with the length n of integers of all sizes: few ones that
// are not 0, small ones, some that are many times there, and great ones.
func manyIntegers(r *rand.Rand, n int) [][]int64 {
	few, small, any := make([]int64, n), make([]int64, n), make([]int64, n)
	for i := range n {
		if r.IntN(6) == 0 {
			few[i] = r.Int64N(41) - 20
		}
		small[i] = r.Int64N(7) - 3
		any[i] = (r.Int64N(2000001) - 1000000) >> r.IntN(21)
	}
	return [][]int64{make([]int64, n), few, small, any, integersUpTo(r, n, 1000000), list(n, any[0])}
}
