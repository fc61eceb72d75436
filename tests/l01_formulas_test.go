package tests

import (
	"fmt"
	"math"
	"math/big"
	"math/rand/v2"
	"testing"

	"loop.example/g01317/impl"
)

// The formulas of chapter 1 once more, with numbers of package big that have the
// 53 digits of 64-bit numbers: whatever a machine may fuse, each operation of
// these is rounded on its own.

const manyInputs = 20000

func wide(x float64) *big.Float          { return big.NewFloat(x) }
func wideInt(n int) *big.Float           { return big.NewFloat(float64(n)) }
func plus(x, y *big.Float) *big.Float    { return new(big.Float).SetPrec(53).Add(x, y) }
func less(x, y *big.Float) *big.Float    { return new(big.Float).SetPrec(53).Sub(x, y) }
func times(x, y *big.Float) *big.Float   { return new(big.Float).SetPrec(53).Mul(x, y) }
func divided(x, y *big.Float) *big.Float { return new(big.Float).SetPrec(53).Quo(x, y) }
func rootOf(x *big.Float) *big.Float     { f, _ := x.Float64(); return wide(math.Sqrt(f)) }
func narrow(x *big.Float) uint32         { f, _ := x.Float32(); return math.Float32bits(f) }

func formulaPart(turns *big.Float) *big.Float {
	whole, _ := turns.Int(nil)
	part := less(turns, new(big.Float).SetInt(whole))
	if part.Cmp(wide(0)) < 0 {
		return plus(part, wide(1))
	}
	return part
}

func formulaSine(turns *big.Float) *big.Float {
	f := formulaPart(turns)
	turned := f.Cmp(wide(0.5)) >= 0
	if turned {
		f = less(f, wide(0.5))
	}
	if f.Cmp(wide(0.25)) > 0 {
		f = less(wide(0.5), f)
	}
	z := times(f, wide(6.283185307179586))
	u, p := times(z, z), wide(1)
	for k := 8; k >= 1; k-- {
		p = less(wide(1), divided(times(u, p), wideInt(2*k*(2*k+1))))
	}
	if turned {
		return new(big.Float).Neg(times(z, p))
	}
	return times(z, p)
}

func formulaPhasor(turns *big.Float) (*big.Float, *big.Float) {
	f, q := formulaPart(turns), 0
	for f.Cmp(wide(0.25)) >= 0 {
		f = less(f, wide(0.25))
		q++
	}
	c, s := formulaSine(less(wide(0.25), f)), formulaSine(f)
	switch q {
	case 1:
		return less(wide(0), s), c
	case 2:
		return less(wide(0), c), less(wide(0), s)
	case 3:
		return s, less(wide(0), c)
	}
	return c, s
}

func formulaAngle(y, x float32) *big.Float {
	a, b := new(big.Float).Abs(wide(float64(y))), new(big.Float).Abs(wide(float64(x)))
	steep := a.Cmp(b) > 0
	if steep {
		a, b = b, a
	}
	t := divided(a, b)
	for range 3 {
		t = divided(t, plus(wide(1), rootOf(plus(wide(1), times(t, t)))))
	}
	u, p := times(t, t), wide(0)
	for k := 15; k > 0; k -= 2 {
		p = less(divided(wide(1), wideInt(k)), times(u, p))
	}
	angle := divided(times(wide(8), times(t, p)), wide(6.283185307179586))
	if steep {
		angle = less(wide(0.25), angle)
	}
	if x < 0 {
		angle = less(wide(0.5), angle)
	}
	if y < 0 {
		angle = angle.Neg(angle)
	}
	return angle
}

func formulaLogarithm(power float32) *big.Float {
	x, e := wide(float64(power)), 0
	for ; x.Cmp(wide(1.5)) >= 0; e++ {
		x = divided(x, wide(2))
	}
	for ; x.Cmp(wide(0.75)) < 0; e-- {
		x = times(x, wide(2))
	}
	s := divided(less(x, wide(1)), plus(x, wide(1)))
	u, q := times(s, s), wide(0)
	for k := 25; k > 0; k -= 2 {
		q = plus(divided(wide(1), wideInt(k)), times(u, q))
	}
	return plus(times(wide(2), times(s, q)), times(wideInt(e), wide(0.6931471805599453)))
}

func formulaTenths(power float32) int64 {
	sum, _ := plus(times(formulaLogarithm(power), wide(43.42944819032518)), wide(0.5)).Float64()
	return int64(math.Floor(sum))
}

func formulaExponential(x float32) *big.Float {
	t, p := divided(wide(float64(x)), wide(256)), wide(1)
	for k := 12; k > 0; k-- {
		p = plus(wide(1), divided(times(t, p), wideInt(k)))
	}
	for range 8 {
		p = times(p, p)
	}
	return p
}

// formulaProduct has the parts of the product of a + b i and c + d i, and the power of the latter.
func formulaProduct(a, b, c, d float32) (re, im, power *big.Float) {
	e, f, g, h := wide(float64(a)), wide(float64(b)), wide(float64(c)), wide(float64(d))
	return less(times(e, g), times(f, h)), plus(times(e, h), times(f, g)), plus(times(g, g), times(h, h))
}

// finiteNumber returns any finite number other than zeros, each exponent as likely as others.
func finiteNumber(r *rand.Rand) float32 {
	for {
		if x := number(r.Uint32()); x != 0 && !math.IsNaN(float64(x)) && !math.IsInf(float64(x), 0) {
			return x
		}
	}
}

// middleNumber returns a number whose products with others of its kind are no infinities.
func middleNumber(r *rand.Rand) float32 { return number(r.Uint32()&0x87ffffff | 0x38000000) }

func TestPromise2SinesAsTold(t *testing.T) {
	r := rand.New(rand.NewPCG(1, 1))
	for range manyInputs {
		for _, x := range []float32{float32(r.Float64()*8 - 4), finiteNumber(r)} {
			if math.Abs(float64(x)) < 0x1p52 {
				checkNumber(t, fmt.Sprintf("SineTurns of %08x", bitsOf(x)), impl.SineTurns(x), narrow(formulaSine(wide(float64(x)))))
			}
		}
	}
}

func TestPromise2PhasorsAsTold(t *testing.T) {
	r := rand.New(rand.NewPCG(2, 1))
	for i := range manyInputs {
		turns := math.Ldexp(r.Float64()*2-1, i%54-1)
		re, im := formulaPhasor(wide(turns))
		checkComplex(t, fmt.Sprint("PhasorOf ", turns), impl.PhasorOf(turns), narrow(re), narrow(im))
	}
}

func TestPromise2AnglesAsTold(t *testing.T) {
	r := rand.New(rand.NewPCG(3, 1))
	for range manyInputs {
		for _, c := range [][2]float32{{middleNumber(r), middleNumber(r)}, {finiteNumber(r), finiteNumber(r)}} {
			checkNumber(t, fmt.Sprintf("AngleTurns of %08x and %08x", bitsOf(c[0]), bitsOf(c[1])), impl.AngleTurns(c[0], c[1]), narrow(formulaAngle(c[0], c[1])))
		}
	}
}

func TestPromise2LogarithmsAsTold(t *testing.T) {
	r := rand.New(rand.NewPCG(4, 1))
	for range manyInputs {
		x := float32(math.Abs(float64(finiteNumber(r))))
		checkNumber(t, fmt.Sprintf("LogNumber of %08x", bitsOf(x)), impl.LogNumber(x), narrow(formulaLogarithm(x)))
		if tenths, ok := impl.TenthsOf(x); !ok || tenths != formulaTenths(x) {
			t.Errorf("TenthsOf %08x: got %d, %v, want %d", bitsOf(x), tenths, ok, formulaTenths(x))
		}
	}
}

func TestPromise2ExponentialsAsTold(t *testing.T) {
	r := rand.New(rand.NewPCG(5, 1))
	for range manyInputs {
		x := float32(r.Float64()*194 - 105)
		checkNumber(t, fmt.Sprintf("ExpNumber of %08x", bitsOf(x)), impl.ExpNumber(x), narrow(formulaExponential(x)))
	}
}

func TestPromise2ProductsAsTold(t *testing.T) {
	r := rand.New(rand.NewPCG(6, 1))
	for i := range manyInputs {
		a, b, c, d := middleNumber(r), middleNumber(r), middleNumber(r), middleNumber(r)
		if i%2 == 0 { // parts whose products are nearly the same, or the opposite
			c, d = b*(1+float32(r.IntN(9))*0x1p-23), a
		}
		x, y := complex(a, b), complex(c, d)
		what := fmt.Sprintf(" %08x %08x and %08x %08x", bitsOf(a), bitsOf(b), bitsOf(c), bitsOf(d))
		re, im, power := formulaProduct(a, b, c, d)
		checkComplex(t, "MulComplex of"+what, impl.MulComplex(x, y), narrow(re), narrow(im))
		checkNumber(t, "PowerOf"+what, impl.PowerOf(y), narrow(power))
		checkNumber(t, "LongOf"+what, impl.LongOf(y), narrow(rootOf(power)))
		re, im, power = formulaProduct(a, b, c, -d)
		checkComplex(t, "QuotientOf"+what, impl.QuotientOf(x, y), narrow(divided(re, power)), narrow(divided(im, power)))
		re, im, _ = formulaProduct(a, -b, c, d)
		got, ok := impl.DotConjugate([]complex64{x}, []complex64{y})
		checkComplex(t, "DotConjugate of"+what, got, narrow(re), narrow(im))
		if !ok {
			t.Error("DotConjugate fails for", what)
		}
	}
}

func TestPromise2ScalesAndSumsAsTold(t *testing.T) {
	r := rand.New(rand.NewPCG(7, 1))
	single := func(x, y *big.Float, do func(*big.Float, *big.Float) *big.Float) float32 {
		return number(narrow(do(x, y)))
	}
	for range manyInputs {
		a, b, c, d := middleNumber(r), middleNumber(r), middleNumber(r), finiteNumber(r)
		ac := single(wide(float64(a)), wide(float64(c)), times)
		ad := single(wide(float64(a)), wide(float64(d)), times)
		bc := single(wide(float64(b)), wide(float64(c)), times)
		what := fmt.Sprintf(" %08x %08x %08x %08x", bitsOf(a), bitsOf(b), bitsOf(c), bitsOf(d))
		checkComplex(t, "ScaleComplex of"+what, impl.ScaleComplex(complex(a, b), c), bitsOf(ac), bitsOf(bc))
		checkNumber(t, "ScaleComplex of"+what, real(impl.ScaleComplex(complex(a, b), d)), bitsOf(ad))
		sum := single(wide(float64(ac)), wide(float64(bc)), plus)
		got, ok := impl.DotNumbers([]float32{a, b}, []float32{c, c})
		checkFound(t, "DotNumbers of"+what, got, ok, bitsOf(sum), true)
		sum = single(wide(float64(single(wide(float64(a)), wide(float64(b)), plus))), wide(float64(c)), plus)
		got, ok = impl.SumNumbers([]float32{a, b, c})
		checkFound(t, "SumNumbers of"+what, got, ok, bitsOf(sum), true)
	}
}
