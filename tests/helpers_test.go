package tests

import (
	"math"
	"testing"
)

const (
	notANumberBits = 0x7fc00000
	infinityBits   = 0x7f800000
	minusZeroBits  = 0x80000000
)

// number returns the number with some bits, without the program's help.
func number(bits uint32) float32 { return math.Float32frombits(bits) }

// bitsOf returns the bits of a number, the same ones for each not-a-number,
// without the program's help.
func bitsOf(x float32) uint32 {
	if x != x {
		return notANumberBits
	}
	return math.Float32bits(x)
}

func numbersOf(bits ...uint32) []float32 {
	list := []float32{}
	for _, n := range bits {
		list = append(list, number(n))
	}
	return list
}

// oddBits are the bits of numbers at which functions are likely to go wrong:
// zeros, subnormal numbers, the ends of ranges, infinities, not-a-numbers.
func oddBits() []uint32 {
	return []uint32{
		0x00000000, 0x80000000, 0x00000001, 0x80000001, 0x00400000, 0x007fffff, 0x807fffff,
		0x00800000, 0x80800000, 0x3e800000, 0x3f000000, 0xbf000000, 0x3f7fffff, 0x3f800000, 0xbf800000,
		0x3f800001, 0x40400000, 0xc0a00000, 0x43480000, 0x43480001, 0xc3480001, 0x597fffff, 0x59800000,
		0xd9800000, 0x7f7fffff, 0xff7fffff, 0x7f800000, 0xff800000, 0x7f800001, 0x7fc00000, 0xffc12345,
		0xffffffff,
	}
}

func checkNumber(t *testing.T, what string, got float32, want uint32) {
	t.Helper()
	if bitsOf(got) != want {
		t.Errorf("%s: got the bits %08x, want %08x", what, bitsOf(got), want)
	}
}

func checkComplex(t *testing.T, what string, got complex64, re, im uint32) {
	t.Helper()
	if bitsOf(real(got)) != re || bitsOf(imag(got)) != im {
		t.Errorf("%s: got the bits %08x and %08x, want %08x and %08x", what, bitsOf(real(got)), bitsOf(imag(got)), re, im)
	}
}

// checkFound checks a number together with whether the function has succeeded:
// where it has to fail, the number is +0.
func checkFound(t *testing.T, what string, got float32, ok bool, want uint32, found bool) {
	t.Helper()
	checkNumber(t, what, got, want)
	if ok != found {
		t.Errorf("%s: succeeds: %v, want %v", what, ok, found)
	}
}

// list returns count times x, with unused capacity behind.
func list[T any](count int, x T) []T {
	all := make([]T, count+3)
	for i := range all {
		all[i] = x
	}
	return all[:count]
}
