package tests

import (
	"fmt"
	"testing"

	"loop.example/g01317/impl"
)

func TestPromise2SumsOfNumbers(t *testing.T) {
	cases := []struct {
		list []float32
		want uint32
	}{
		{nil, 0}, {[]float32{}, 0}, {[]float32{3}, 0x40400000}, {[]float32{1, 2, 3.5}, 0x40d00000},
		{numbersOf(minusZeroBits), 0}, {numbersOf(minusZeroBits, minusZeroBits), 0}, // sums begin with +0
		{[]float32{1e8, 1, -1e8}, 0}, {[]float32{1e8, -1e8, 1}, 0x3f800000}, {[]float32{1, 1e8, -1e8}, 0}, // from left to right
		{[]float32{0x1p24, 1, 1}, bitsOf(0x1p24)}, {numbersOf(1, 0x80000002), 0x80000001}, {numbersOf(0x00400000, 0x00400000), 0x00800000},
		{numbersOf(0x7f7fffff, 0x7f7fffff, 0xff7fffff), infinityBits}, {numbersOf(infinityBits, 0xff800000), notANumberBits},
		{numbersOf(0xff800000, 0x3f800000), 0xff800000}, {numbersOf(0x3f800000, notANumberBits), notANumberBits},
		{list(256, float32(0.5)), bitsOf(128)},
	}
	for _, c := range cases {
		got, ok := impl.SumNumbers(c.list)
		checkFound(t, fmt.Sprint("SumNumbers of ", c.list), got, ok, c.want, true)
	}
	got, ok := impl.SumNumbers(list(257, float32(1)))
	checkFound(t, "SumNumbers of too many", got, ok, 0, false)
}

func TestPromise2DotsOfNumbers(t *testing.T) {
	cases := []struct {
		a, b []float32
		want uint32
	}{
		{nil, []float32{}, 0}, {[]float32{1, 2}, []float32{3, 4}, bitsOf(11)}, {[]float32{-3}, []float32{5}, bitsOf(-15)},
		{[]float32{-1}, []float32{0}, 0}, {[]float32{1e8, 1, 1e8}, []float32{1, 1, -1}, 0},
		{[]float32{-0x1.002p0, 0x1.001p0}, []float32{1, 0x1.001p0}, 0}, // the square is rounded before it is added
		{[]float32{0x1p100, 1}, []float32{0x1p100, 1}, infinityBits}, {numbersOf(1, 1), numbersOf(1, 0x3f800000), 1},
		{[]float32{0x1.000002p0, 0x1.000002p0}, []float32{0x1p24, 1}, bitsOf(0x1.000004p24)},
		{numbersOf(infinityBits), []float32{0}, notANumberBits}, {numbersOf(notANumberBits), []float32{0}, notANumberBits},
		{list(256, float32(2)), list(256, float32(-1)), bitsOf(-512)},
	}
	for _, c := range cases {
		got, ok := impl.DotNumbers(c.a, c.b)
		checkFound(t, fmt.Sprint("DotNumbers of ", c.a, " and ", c.b), got, ok, c.want, true)
	}
	for _, c := range cases {
		got, ok := impl.DotNumbers(c.a, append([]float32{1}, c.b...))
		checkFound(t, fmt.Sprint("DotNumbers, where b is longer than ", c.a), got, ok, 0, false)
		got, ok = impl.DotNumbers(append([]float32{1}, c.a...), c.b)
		checkFound(t, fmt.Sprint("DotNumbers, where a is longer than ", c.b), got, ok, 0, false)
	}
	got, ok := impl.DotNumbers(list(257, float32(1)), list(257, float32(1)))
	checkFound(t, "DotNumbers of too many", got, ok, 0, false)
}

func TestPromise2SumsOfComplexNumbers(t *testing.T) {
	minus, inf := number(minusZeroBits), number(infinityBits)
	cases := []struct {
		list   []complex64
		re, im uint32
	}{
		{nil, 0, 0}, {[]complex64{1, complex(2, 3)}, bitsOf(3), bitsOf(3)}, {[]complex64{complex(minus, minus)}, 0, 0},
		{[]complex64{complex(1e8, 1), complex(1, -1e8), complex(-1e8, 1e8)}, 0, 0},
		{[]complex64{complex(1e8, 1e8), complex(-1e8, -1e8), complex(1, -1)}, bitsOf(1), bitsOf(-1)},
		{[]complex64{complex(inf, 1), complex(-inf, inf)}, notANumberBits, infinityBits},
		{list(256, complex64(complex(1, -2))), bitsOf(256), bitsOf(-512)},
	}
	for _, c := range cases {
		got, ok := impl.SumComplex(c.list)
		checkComplex(t, fmt.Sprint("SumComplex of ", c.list), got, c.re, c.im)
		if !ok {
			t.Error("SumComplex fails for ", c.list)
		}
	}
	if got, ok := impl.SumComplex(list(257, complex64(1))); ok || got != 0 {
		t.Error("SumComplex of too many: ", got, ok)
	}
}

func TestPromise2DotsOfComplexNumbers(t *testing.T) {
	cases := []struct {
		a, b             []complex64
		re, im, reC, imC uint32
	}{
		{nil, nil, 0, 0, 0, 0},
		{[]complex64{complex(0, 1)}, []complex64{complex(0, 1)}, bitsOf(-1), 0, bitsOf(1), 0},
		{[]complex64{complex(1, 2)}, []complex64{complex(3, -1)}, bitsOf(5), bitsOf(5), bitsOf(1), bitsOf(-7)},
		{[]complex64{complex(1, 2), complex(0, -1)}, []complex64{complex(3, -1), complex(2, 2)}, bitsOf(7), bitsOf(3), bitsOf(-1), bitsOf(-5)},
		{[]complex64{1e8, 1, 1e8}, []complex64{1, 1, -1}, 0, 0, 0, 0}, // from left to right
		{[]complex64{-1}, []complex64{0}, 0, 0, 0, 0},                 // sums begin with +0
		{[]complex64{-0x1.002p0, 0x1.001p0}, []complex64{1, 0x1.001p0}, 0, 0, 0, 0},
		{[]complex64{complex(number(infinityBits), 0)}, []complex64{complex(1, 1)}, infinityBits, infinityBits, infinityBits, infinityBits},
		{list(256, complex64(complex(0, 1))), list(256, complex64(complex(1, 2))), bitsOf(-512), bitsOf(256), bitsOf(512), bitsOf(-256)},
	}
	for _, c := range cases {
		got, one := impl.DotComplex(c.a, c.b)
		checkComplex(t, fmt.Sprint("DotComplex of ", c.a, " and ", c.b), got, c.re, c.im)
		got, two := impl.DotConjugate(c.a, c.b)
		checkComplex(t, fmt.Sprint("DotConjugate of ", c.a, " and ", c.b), got, c.reC, c.imC)
		if !one || !two {
			t.Error("DotComplex or DotConjugate fails for ", c.a, " and ", c.b)
		}
	}
}

func TestPromise2DotsOfComplexNumbersThatFail(t *testing.T) {
	for _, c := range [][2]int{{0, 1}, {1, 0}, {3, 2}, {2, 3}, {256, 257}, {257, 256}, {257, 257}} {
		a, b := list(c[0], complex64(2)), list(c[1], complex64(3))
		if got, ok := impl.DotComplex(a, b); ok || got != 0 {
			t.Error("DotComplex of lists of the lengths ", c, ": ", got, ok)
		}
		if got, ok := impl.DotConjugate(a, b); ok || got != 0 {
			t.Error("DotConjugate of lists of the lengths ", c, ": ", got, ok)
		}
	}
}

func TestPromise2SumsOfPowers(t *testing.T) {
	cases := []struct {
		list []complex64
		want uint32
	}{
		{nil, 0}, {[]complex64{complex(3, 4), 1}, bitsOf(26)}, {[]complex64{complex(-3, number(minusZeroBits))}, bitsOf(9)},
		{append([]complex64{1}, list(16, complex64(0x1p-13))...), bitsOf(0x1.000004p0)}, // as 64-bit numbers
		{[]complex64{0x1p-80, 0x1p-80, 0x1p-80}, 0}, {[]complex64{0x1p-75, 0x1p-75, 0x1p-75}, 2}, {[]complex64{0x1p64}, infinityBits},
		{[]complex64{0x1p60, 0x1p30}, bitsOf(0x1p120)}, {append([]complex64{0x1p27}, list(4, complex64(1))...), bitsOf(0x1p54)},
		{append(list(255, complex64(0)), complex(2, 2)), bitsOf(8)}, {list(256, complex64(complex(1, 1))), bitsOf(512)},
		{[]complex64{complex(number(0xff800000), 1)}, infinityBits}, {[]complex64{complex(1, number(notANumberBits)), 1}, notANumberBits},
	}
	for _, c := range cases {
		got, ok := impl.PowersOf(c.list)
		checkFound(t, fmt.Sprint("PowersOf ", c.list), got, ok, c.want, true)
	}
	got, ok := impl.PowersOf(list(257, complex64(1)))
	checkFound(t, "PowersOf too many", got, ok, 0, false)
}
