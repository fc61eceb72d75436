package tests

import (
	"fmt"
	"math"
	"testing"

	"loop.example/g01317/impl"
)

func TestPromise2SameNumbers(t *testing.T) {
	for _, m := range oddBits() {
		for _, n := range oddBits() {
			a, b := number(m), number(n)
			want := m == n || a != a && b != b
			if impl.SameNumber(a, b) != want {
				t.Errorf("SameNumber of %08x and %08x: want %v", m, n, want)
			}
			if impl.SameComplex(complex(a, 1), complex(b, 1)) != want || impl.SameComplex(complex(-2, a), complex(-2, b)) != want {
				t.Errorf("SameComplex with the parts %08x and %08x: want %v", m, n, want)
			}
			if impl.SameComplex(complex(a, 5), complex(b, 6)) || impl.SameComplex(complex(5, a), complex(6, b)) {
				t.Errorf("SameComplex with %08x and %08x in one part, and others in the other one", m, n)
			}
		}
	}
}

func TestPromise2BitsOfNumbers(t *testing.T) {
	for _, n := range oddBits() {
		x, ok := impl.FromBits(int64(n))
		if !ok || bitsOf(x) != bitsOf(number(n)) {
			t.Errorf("FromBits of %08x: got %08x, %v", n, bitsOf(x), ok)
		}
		if got := impl.BitsOf(number(n)); got != int64(bitsOf(number(n))) {
			t.Errorf("BitsOf %08x: got %08x", n, got)
		}
	}
	for n := int64(0); n <= math.MaxUint32; n += 65521 {
		x, ok := impl.FromBits(n)
		if got := impl.BitsOf(x); !ok || got != n && got != 2143289344 || got != int64(bitsOf(number(uint32(n)))) {
			t.Fatalf("BitsOf FromBits of %d: got %d, %v", n, got, ok)
		}
	}
	for _, n := range []int64{-1, 4294967296, math.MinInt64, math.MaxInt64, 1065353216 + 1<<32} {
		x, ok := impl.FromBits(n)
		checkFound(t, fmt.Sprint("FromBits of ", n), x, ok, 0, false)
	}
	if x, ok := impl.FromBits(4294967295); !ok || x == x {
		t.Errorf("FromBits of the greatest bits is no not-a-number: %v, %v", x, ok)
	}
}

func TestPromise2FiniteNumbers(t *testing.T) {
	for _, n := range oddBits() {
		x := number(n)
		want := n&infinityBits != infinityBits
		if impl.IsFinite(x) != want || impl.IsFiniteComplex(complex(x, 1)) != want || impl.IsFiniteComplex(complex(1, x)) != want {
			t.Errorf("IsFinite or IsFiniteComplex of %08x: want %v", n, want)
		}
	}
	if impl.IsFiniteComplex(complex(number(infinityBits), number(notANumberBits))) {
		t.Error("IsFiniteComplex of two parts that are not finite")
	}
}

func TestPromise2SubnormalNumbers(t *testing.T) {
	for _, n := range oddBits() {
		size := n & 0x7fffffff
		small := size > 0 && size < 0x00800000
		if impl.IsSubnormal(number(n)) != small {
			t.Errorf("IsSubnormal of %08x: want %v", n, small)
		}
		want := bitsOf(number(n))
		if small {
			want = n & minusZeroBits
		}
		checkNumber(t, fmt.Sprintf("FlushNumber of %08x", n), impl.FlushNumber(number(n)), want)
	}
}

func TestPromise2NarrowNumbers(t *testing.T) {
	cases := []struct {
		x    float64
		want uint32
	}{
		{0, 0}, {math.Copysign(0, -1), minusZeroBits}, {0.5, 0x3f000000}, {-3, 0xc0400000},
		{0x1.000001p0, 0x3f800000}, {0x1.0000010000001p0, 0x3f800001}, {0x1.000003p0, 0x3f800002}, {-0x1.000003p0, 0xbf800002},
		{0x1p-149, 1}, {0x1p-150, 0}, {-0x1p-150, minusZeroBits}, {0x1.0000000000001p-150, 1}, {0x3p-150, 2}, {0x5p-150, 2},
		{0x1.fffffcp-127, 0x007fffff}, {0x1.fffffep-127, 0x00800000}, {1e-300, 0}, {-5e-324, minusZeroBits},
		{0x1.fffffep127, 0x7f7fffff}, {0x1.fffffefffffffp127, 0x7f7fffff}, {0x1.ffffffp127, infinityBits}, {-1e300, 0xff800000},
		{math.Inf(1), infinityBits}, {math.Inf(-1), 0xff800000}, {math.NaN(), notANumberBits},
	}
	for _, c := range cases {
		checkNumber(t, fmt.Sprint("NarrowNumber of ", c.x), impl.NarrowNumber(c.x), c.want)
		checkComplex(t, fmt.Sprint("NarrowComplex with the real part ", c.x), impl.NarrowComplex(complex(c.x, 0x1.000001p0)), c.want, 0x3f800000)
		checkComplex(t, fmt.Sprint("NarrowComplex with the imaginary part ", c.x), impl.NarrowComplex(complex(-2, c.x)), 0xc0000000, c.want)
	}
}

func TestPromise2ProductsOfSmallIntegers(t *testing.T) {
	const most = 6
	for n := range 13 * 13 * 13 * 13 {
		a, b, c, d := n%13-most, n/13%13-most, n/169%13-most, n/2197-most
		x, y := complex(float32(a), float32(b)), complex(float32(c), float32(d))
		product := impl.MulComplex(x, y)
		if real(product) != float32(a*c-b*d) || imag(product) != float32(a*d+b*c) {
			t.Fatalf("MulComplex of %v and %v: got %v", x, y, product)
		}
		if got := impl.ScaleComplex(x, float32(c)); real(got) != float32(a*c) || imag(got) != float32(b*c) {
			t.Fatalf("ScaleComplex of %v and %d: got %v", x, c, got)
		}
		if impl.PowerOf(x) != float32(a*a+b*b) {
			t.Fatalf("PowerOf %v: got %v", x, impl.PowerOf(x))
		}
		if y != 0 && impl.QuotientOf(product, y) != x {
			t.Fatalf("QuotientOf %v and %v: got %v, want %v", product, y, impl.QuotientOf(product, y), x)
		}
		if got := impl.ConjugateOf(x); real(got) != float32(a) || imag(got) != float32(-b) {
			t.Fatalf("ConjugateOf %v: got %v", x, got)
		}
	}
}

func TestPromise2ProductsAreNarrowedInTheEnd(t *testing.T) {
	// In 32-bit numbers, the difference and the sums would be +0.
	x, y := complex(float32(0x1.000002p0), float32(1)), complex(float32(0x1.000002p0), float32(0x1.000004p0))
	checkComplex(t, "MulComplex, real", impl.MulComplex(x, y), bitsOf(0x1p-46), bitsOf(0x1.000004p1))
	y = complex(float32(-0x1.000004p0), float32(0x1.000002p0))
	checkComplex(t, "MulComplex, imaginary", impl.MulComplex(x, y), bitsOf(-0x1.000004p1), bitsOf(0x1p-46))
	// The squares are too great, or too small, for 32-bit numbers.
	big, tiny := complex(float32(0x1p100), float32(0)), complex(float32(0x1p-149), float32(0))
	checkNumber(t, "LongOf of a great number", impl.LongOf(big), bitsOf(0x1p100))
	checkNumber(t, "LongOf of a tiny number", impl.LongOf(tiny), 1)
	checkNumber(t, "PowerOf of a great number", impl.PowerOf(big), infinityBits)
	checkNumber(t, "PowerOf of a tiny number", impl.PowerOf(tiny), 0)
	checkComplex(t, "QuotientOf great numbers", impl.QuotientOf(big, big), 0x3f800000, 0)
	checkComplex(t, "QuotientOf tiny numbers", impl.QuotientOf(tiny, tiny), 0x3f800000, 0)
	checkNumber(t, "PowerOf of what is behind 1", impl.PowerOf(complex(1, 0x1.8p-12)), 0x3f800001)
	checkNumber(t, "LongOf a 3 and a 4", impl.LongOf(complex(-3, 4)), bitsOf(5))
	checkNumber(t, "LongOf 1 and 1", impl.LongOf(complex(1, 1)), bitsOf(math.Sqrt2))
	// As 32-bit numbers, the products with a number are subnormal, zeros or infinities.
	scaled := impl.ScaleComplex(complex(number(0x80000001), number(0x00800001)), 0.5)
	checkComplex(t, "ScaleComplex of tiny numbers", scaled, minusZeroBits, 0x00400000)
	checkComplex(t, "ScaleComplex of great numbers", impl.ScaleComplex(complex(0x1p127, -0x1p127), 2), infinityBits, 0xff800000)
	checkComplex(t, "ScaleComplex by a third", impl.ScaleComplex(complex(1, 3), 1.0/3), 0x3eaaaaab, 0x3f800000)
}

func TestPromise2SignsOfZeros(t *testing.T) {
	zero, minus := float32(0), number(minusZeroBits)
	checkComplex(t, "conjugate of 1 + 0 i", impl.ConjugateOf(complex(1, zero)), 0x3f800000, minusZeroBits)
	checkComplex(t, "conjugate of -0 - 0 i", impl.ConjugateOf(complex(minus, minus)), minusZeroBits, 0)
	checkComplex(t, "product of +0 + 0 i and -1 + 0 i", impl.MulComplex(0, complex(-1, zero)), minusZeroBits, 0)
	checkComplex(t, "product of 1 + 0 i and -0 - 0 i", impl.MulComplex(1, complex(minus, minus)), 0, minusZeroBits)
	checkComplex(t, "product of 2 - 0 i and 3 - 0 i", impl.MulComplex(complex(2, minus), complex(3, minus)), 0x40c00000, minusZeroBits)
	checkComplex(t, "scaled by -1", impl.ScaleComplex(complex(zero, minus), -1), minusZeroBits, 0)
	checkComplex(t, "quotient of +0 - 0 i and 1", impl.QuotientOf(complex(zero, minus), 1), 0, minusZeroBits)
	checkComplex(t, "quotient of -0 - 0 i and 1", impl.QuotientOf(complex(minus, minus), 1), minusZeroBits, 0)
	checkComplex(t, "quotient of +0 and -1", impl.QuotientOf(0, complex(-1, zero)), 0, minusZeroBits)
	checkNumber(t, "root of -0", impl.RootNumber(minus), minusZeroBits)
	checkNumber(t, "power of -0 - 0 i", impl.PowerOf(complex(minus, minus)), 0)
	checkNumber(t, "length of -0 - 0 i", impl.LongOf(complex(minus, minus)), 0)
}

func TestPromise2QuotientsByZero(t *testing.T) {
	// The product with a zero is a zero, or a not-a-number, which is then divided by +0.
	zero, minus, inf := float32(0), number(minusZeroBits), number(infinityBits)
	for _, y := range []complex64{0, complex(minus, zero), complex(zero, minus), complex(minus, minus)} {
		for _, x := range []complex64{0, 1, complex(-1, -2), complex(number(1), number(0x7f7fffff)), complex(inf, 1)} {
			checkComplex(t, fmt.Sprint(x, " by ", y), impl.QuotientOf(x, y), notANumberBits, notANumberBits)
		}
	}
}

func TestPromise2QuotientsOfOthers(t *testing.T) {
	checkComplex(t, "1 by 3", impl.QuotientOf(1, 3), 0x3eaaaaab, 0)
	checkComplex(t, "1 by 1 + i", impl.QuotientOf(1, complex(1, 1)), 0x3f000000, 0xbf000000)
	checkComplex(t, "1 + 2 i by 3 - 4 i", impl.QuotientOf(complex(1, 2), complex(3, -4)), bitsOf(-0.2), bitsOf(0.4))
	checkComplex(t, "1 by an infinity", impl.QuotientOf(1, complex(number(infinityBits), 0)), notANumberBits, notANumberBits)
}

func TestPromise2PartsThatAreNotFinite(t *testing.T) {
	inf, nan := number(infinityBits), number(notANumberBits)
	checkComplex(t, "an infinity by 1", impl.MulComplex(complex(inf, 0), 1), infinityBits, notANumberBits)
	checkComplex(t, "an infinity by 2 + i", impl.MulComplex(complex(inf, 3), complex(2, 1)), infinityBits, infinityBits)
	checkComplex(t, "a not-a-number by 1", impl.MulComplex(complex(1, nan), 1), notANumberBits, notANumberBits)
	checkComplex(t, "great numbers", impl.MulComplex(complex(0x1p127, 0), complex(-2, 4)), 0xff800000, infinityBits)
	checkComplex(t, "a scaled infinity", impl.ScaleComplex(complex(inf, nan), -2), 0xff800000, notANumberBits)
	checkComplex(t, "an infinity scaled by 0", impl.ScaleComplex(complex(inf, 1), 0), notANumberBits, 0)
	checkComplex(t, "conjugate of infinities", impl.ConjugateOf(complex(-inf, inf)), 0xff800000, 0xff800000)
	checkNumber(t, "power of an infinity", impl.PowerOf(complex(-inf, 1)), infinityBits)
	checkNumber(t, "power with a not-a-number", impl.PowerOf(complex(inf, nan)), notANumberBits)
	checkNumber(t, "length of an infinity", impl.LongOf(complex(0, -inf)), infinityBits)
	checkNumber(t, "length of a not-a-number", impl.LongOf(complex(nan, 1)), notANumberBits)
}

func TestPromise2Roots(t *testing.T) {
	cases := []struct{ x, want uint32 }{
		{0, 0}, {0x3f800000, 0x3f800000}, {0x41100000, 0x40400000}, {0x40000000, 0x3fb504f3}, {0x40400000, 0x3fddb3d7},
		{1, 0x1a3504f3}, {0x007fffff, 0x1fffffff}, {0x00800000, 0x20000000}, {0x7f7fffff, 0x5f7fffff},
		{0xbf800000, notANumberBits}, {0x80000001, notANumberBits}, {0xff800000, notANumberBits},
		{infinityBits, infinityBits}, {notANumberBits, notANumberBits},
	}
	for _, c := range cases {
		checkNumber(t, fmt.Sprintf("RootNumber of %08x", c.x), impl.RootNumber(number(c.x)), c.want)
	}
}
