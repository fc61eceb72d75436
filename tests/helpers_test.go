package tests

import (
	"fmt"
	"math"
	"strings"
	"testing"
)

const (
	notANumberBits = 0x7fc00000
	infinityBits   = 0x7f800000
	minusZeroBits  = 0x80000000
)

// number returns the number with some bits, without the program's help.
func number(bits uint32) float32 { return math.Float32frombits(bits) }

// bitsOf returns the bits of a number, the same ones for each not-a-number,
// without the program's help.
func bitsOf(x float32) uint32 {
	if x != x {
		return notANumberBits
	}
	return math.Float32bits(x)
}

func numbersOf(bits ...uint32) []float32 {
	list := []float32{}
	for _, n := range bits {
		list = append(list, number(n))
	}
	return list
}

// oddBits are the bits of numbers at which functions are likely to go wrong:
// zeros, subnormal numbers, the ends of ranges, infinities, not-a-numbers.
func oddBits() []uint32 {
	return []uint32{
		0x00000000, 0x80000000, 0x00000001, 0x80000001, 0x00400000, 0x007fffff, 0x807fffff,
		0x00800000, 0x80800000, 0x3e800000, 0x3f000000, 0xbf000000, 0x3f7fffff, 0x3f800000, 0xbf800000,
		0x3f800001, 0x40400000, 0xc0a00000, 0x43480000, 0x43480001, 0xc3480001, 0x597fffff, 0x59800000,
		0xd9800000, 0x7f7fffff, 0xff7fffff, 0x7f800000, 0xff800000, 0x7f800001, 0x7fc00000, 0xffc12345,
		0xffffffff,
	}
}

func checkNumber(t *testing.T, what string, got float32, want uint32) {
	t.Helper()
	if bitsOf(got) != want {
		t.Errorf("%s: got the bits %08x, want %08x", what, bitsOf(got), want)
	}
}

func checkComplex(t *testing.T, what string, got complex64, re, im uint32) {
	t.Helper()
	if bitsOf(real(got)) != re || bitsOf(imag(got)) != im {
		t.Errorf("%s: got the bits %08x and %08x, want %08x and %08x", what, bitsOf(real(got)), bitsOf(imag(got)), re, im)
	}
}

// checkFound checks a number together with whether the function has succeeded:
// where it has to fail, the number is +0.
func checkFound(t *testing.T, what string, got float32, ok bool, want uint32, found bool) {
	t.Helper()
	checkNumber(t, what, got, want)
	if ok != found {
		t.Errorf("%s: succeeds: %v, want %v", what, ok, found)
	}
}

// list returns count times x, with unused capacity behind.
func list[T any](count int, x T) []T {
	all := make([]T, count+3)
	for i := range all {
		all[i] = x
	}
	return all[:count]
}

// seen writes results down in full, so that equal texts mean equal results.
func seen(results ...any) string {
	parts := []string{}
	for _, r := range results {
		switch x := r.(type) {
		case float32:
			parts = append(parts, fmt.Sprintf("%08x", bitsOf(x)))
		case complex64:
			parts = append(parts, fmt.Sprintf("%08x%08x", bitsOf(real(x)), bitsOf(imag(x))))
		case []float32:
			for _, y := range x {
				parts = append(parts, seen(y))
			}
		case [][]float32:
			for _, y := range x {
				parts = append(parts, "["+seen(y)+"]")
			}
		case []complex64:
			for _, y := range x {
				parts = append(parts, seen(y))
			}
		default:
			parts = append(parts, fmt.Sprint(x))
		}
	}
	return strings.Join(parts, " ")
}

// callTwice fails where a call panics, or where its results are not equal the second time.
func callTwice(t *testing.T, what string, call func() string) string {
	t.Helper()
	defer func() {
		if r := recover(); r != nil {
			t.Errorf("%s panics: %v", what, r)
		}
	}()
	first := call()
	if again := call(); again != first {
		t.Errorf("%s: got %s, and then %s", what, first, again)
	}
	return first
}
