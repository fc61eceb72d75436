package tests

import (
	"fmt"
	"math"
	"strings"
	"testing"

	"loop.example/g01317/impl"
)

func oddComplex() []complex64 {
	all := []complex64{}
	bits := oddBits()
	for i, n := range bits {
		for _, step := range []int{0, 1, 7, 13} {
			all = append(all, complex(number(n), number(bits[(i+step)%len(bits)])))
		}
	}
	return all
}

func oddTexts() []string {
	return append(wrongTexts(), "none", "3f800000", "3f80000000000000,7fc000007fc00000", "1,2,-3", "-1000000000000000", "9223372036854775808", "abcdefgh",
		strings.Repeat(",", 70000), strings.Repeat("0", 70000), strings.Repeat("3f800000,", 9000), "\xf0\x9f", "日本語日本語")
}

func TestPromise1EveryNumberReturns(t *testing.T) {
	for _, n := range oddBits() {
		x := number(n)
		callTwice(t, fmt.Sprintf("a function of %08x", n), func() string {
			back, one := impl.FromBits(impl.BitsOf(x))
			tenths, two := impl.TenthsOf(x)
			return seen(impl.IsFinite(x), back, one, tenths, two, impl.IsSubnormal(x), impl.FlushNumber(x), impl.SineTurns(x), impl.RootNumber(x), impl.ExpNumber(x),
				impl.LogNumber(x), impl.NarrowNumber(float64(x)), impl.PhasorOf(float64(x)), impl.PhasorOf(1e200*float64(x)), impl.NarrowNumber(1e200*float64(x)))
		})
		for _, m := range oddBits() {
			y := number(m)
			callTwice(t, fmt.Sprintf("a function of %08x and %08x", n, m), func() string {
				return seen(impl.SameNumber(x, y), impl.AngleTurns(x, y), impl.AngleOf(complex(x, y)), impl.ConjugateOf(complex(x, y)), impl.PowerOf(complex(x, y)),
					impl.LongOf(complex(x, y)), impl.IsFiniteComplex(complex(x, y)), impl.NarrowComplex(complex(float64(x), 1e200*float64(y))))
			})
		}
	}
}

func TestPromise1EveryComplexNumberReturns(t *testing.T) {
	for _, x := range oddComplex() {
		for _, y := range oddComplex() {
			callTwice(t, fmt.Sprint("a function of ", x, " and ", y), func() string {
				return seen(impl.SameComplex(x, y), impl.MulComplex(x, y), impl.QuotientOf(x, y), impl.ScaleComplex(x, real(y)))
			})
		}
	}
}

func TestPromise1EveryIntegerAndTextReturns(t *testing.T) {
	for _, n := range []int64{0, -1, 1, math.MinInt64, math.MaxInt64, 1 << 32, 65002, 65003, 1000000000000000, -1000000000000001} {
		callTwice(t, fmt.Sprint("a function of ", n), func() string {
			x, one := impl.FromBits(n)
			check, two := impl.CheckOf(n, "text")
			text, three := impl.ListText([]int64{n})
			return seen(x, one, check, two, text, three, impl.Decimal(n))
		})
	}
	for _, s := range oddTexts() {
		callTwice(t, fmt.Sprintf("a function of the text %.20q", s), func() string {
			a, one := impl.ReadNumbers(s)
			b, two := impl.ReadComplex(s)
			c, three := impl.ReadDecimal(s)
			d, four := impl.ReadList(s)
			e, five := impl.CheckOf(7, s)
			return seen(a, one, b, two, c, three, d, four, e, five, impl.IsName(s))
		})
	}
}

// numbersBehind has lists of some lengths whose unused capacity is told apart from what is in them.
func numbersBehind(count int) []float32 {
	all := make([]float32, 0, count+4)
	for i := range count + 4 {
		all = append(all, number(oddBits()[i%len(oddBits())]))
	}
	return all[:count]
}

func complexBehind(count int) []complex64 {
	all := make([]complex64, 0, count+4)
	for i := range count + 4 {
		all = append(all, oddComplex()[i%len(oddComplex())])
	}
	return all[:count]
}

func TestPromise1ListsAreNotModified(t *testing.T) {
	for _, count := range []int{0, 1, 2, 31, 255, 256, 257, 3000} {
		a, b, c, d := numbersBehind(count), numbersBehind(count), complexBehind(count), complexBehind(count)
		before := seen(a[:count+4], b[:count+4], c[:count+4], d[:count+4])
		callTwice(t, fmt.Sprint("a function of lists with the length ", count), func() string {
			one, ok1 := impl.SumNumbers(a)
			two, ok2 := impl.DotNumbers(a, b)
			three, ok3 := impl.SumComplex(c)
			four, ok4 := impl.DotComplex(c, d)
			five, ok5 := impl.DotConjugate(c, d)
			six, ok6 := impl.PowersOf(c)
			seven, ok7 := impl.NumbersText(a)
			eight, ok8 := impl.ComplexText(c)
			return seen(one, ok1, two, ok2, three, ok3, four, ok4, five, ok5, six, ok6, seven, ok7, eight, ok8)
		})
		callTwice(t, "a function of the same list twice", func() string {
			one, ok1 := impl.DotNumbers(a, a)
			two, ok2 := impl.DotComplex(c, c)
			three, ok3 := impl.DotConjugate(c, c)
			return seen(one, ok1, two, ok2, three, ok3)
		})
		if seen(a[:count+4], b[:count+4], c[:count+4], d[:count+4]) != before {
			t.Error("lists have been modified, with the length ", count)
		}
	}
	integers := []int64{5, -6, 7, 8, 9}
	if text, ok := impl.ListText(integers[:2]); !ok || text != "5,-6" || fmt.Sprint(integers) != "[5 -6 7 8 9]" {
		t.Error("ListText: ", text, ok, integers)
	}
}

func TestPromise1ListsThatAreReadAreNew(t *testing.T) {
	a, _ := impl.ReadNumbers("3f800000,40000000")
	b, _ := impl.ReadComplex("3f80000000000000")
	c, _ := impl.ReadList("1,2")
	if len(a) != 2 || len(b) != 1 || len(c) != 2 {
		t.Fatal("texts are not read: ", a, b, c)
	}
	a[0], b[0], c[0] = 9, 9, 9
	again, _ := impl.ReadNumbers("3f800000,40000000")
	complexAgain, _ := impl.ReadComplex("3f80000000000000")
	listAgain, _ := impl.ReadList("1,2")
	if again[0] != 1 || complexAgain[0] != 1 || listAgain[0] != 1 {
		t.Error("lists that are read share memory: ", again, complexAgain, listAgain)
	}
}
