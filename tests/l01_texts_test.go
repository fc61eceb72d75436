package tests

import (
	"math"
	"strconv"
	"strings"
	"testing"

	"loop.example/g01317/impl"
)

func TestPromise2TextsOfNumbers(t *testing.T) {
	for _, c := range []struct {
		list []float32
		want string
	}{
		{nil, "none"}, {[]float32{}, "none"}, {[]float32{1}, "3f800000"}, {[]float32{1, -2}, "3f800000,c0000000"},
		{numbersOf(0, minusZeroBits, 1, 0x80000001), "00000000,80000000,00000001,80000001"},
		{numbersOf(0x0abcdef9, 0x7f7fffff, infinityBits, 0xff800000), "0abcdef9,7f7fffff,7f800000,ff800000"},
	} {
		text, ok := impl.NumbersText(c.list)
		if text != c.want || !ok {
			t.Errorf("NumbersText of %v: got %q, %v", c.list, text, ok)
		}
		back, ok := impl.ReadNumbers(c.want)
		if !ok || !sameNumbers(back, c.list) {
			t.Errorf("ReadNumbers of %q: got %v, %v", c.want, back, ok)
		}
	}
	for _, n := range []uint32{0x7f800001, notANumberBits, 0x7fffffff, 0xff800001, 0xffc00000, 0xffffffff} {
		if text, ok := impl.NumbersText(numbersOf(n)); text != "7fc00000" || !ok {
			t.Errorf("NumbersText of the not-a-number %08x: got %q, %v", n, text, ok)
		}
	}
	if back, ok := impl.ReadNumbers("7fc00000"); !ok || !sameNumbers(back, numbersOf(notANumberBits)) {
		t.Error("ReadNumbers of a not-a-number: ", back, ok)
	}
}

func sameNumbers(a, b []float32) bool {
	for i := range min(len(a), len(b)) {
		if bitsOf(a[i]) != bitsOf(b[i]) {
			return false
		}
	}
	return len(a) == len(b)
}

func TestPromise2TextsOfComplexNumbers(t *testing.T) {
	for _, c := range []struct {
		list []complex64
		want string
	}{
		{nil, "none"}, {[]complex64{}, "none"}, {[]complex64{1}, "3f80000000000000"},
		{[]complex64{1, complex(0, -2)}, "3f80000000000000,00000000c0000000"},
		{[]complex64{complex(number(minusZeroBits), number(0x80000001)), complex(number(0xff800000), number(0xffffffff))}, "8000000080000001,ff8000007fc00000"},
	} {
		text, ok := impl.ComplexText(c.list)
		if text != c.want || !ok {
			t.Errorf("ComplexText of %v: got %q, %v", c.list, text, ok)
		}
		back, ok := impl.ReadComplex(c.want)
		if !ok || len(back) != len(c.list) {
			t.Errorf("ReadComplex of %q: got %v, %v", c.want, back, ok)
		}
		for i, x := range back {
			checkComplex(t, "ReadComplex of "+c.want, x, bitsOf(real(c.list[i])), bitsOf(imag(c.list[i])))
		}
	}
}

func TestPromise2LongTexts(t *testing.T) {
	numbers := strings.Repeat("c0400000,", 255) + "3f800000"
	if back, ok := impl.ReadNumbers(numbers); !ok || len(back) != 256 || back[0] != -3 || back[255] != 1 {
		t.Error("ReadNumbers of 256 numbers: ", len(back), ok)
	}
	if text, ok := impl.NumbersText(append(list(255, float32(-3)), 1)); !ok || text != numbers {
		t.Error("NumbersText of 256 numbers: ", text, ok)
	}
	if text, ok := impl.NumbersText(list(257, float32(-3))); ok || text != "" {
		t.Error("NumbersText of 257 numbers: ", text, ok)
	}
	if back, ok := impl.ReadNumbers(numbers + ",3f800000"); ok || len(back) != 0 {
		t.Error("ReadNumbers of 257 numbers: ", len(back), ok)
	}
	many := strings.Repeat("c040000080000000,", 255) + "3f80000000000000"
	if back, ok := impl.ReadComplex(many); !ok || len(back) != 256 || back[0] != -3 || back[255] != 1 {
		t.Error("ReadComplex of 256 numbers: ", len(back), ok)
	}
	if text, ok := impl.ComplexText(append(list(255, complex64(complex(-3, number(minusZeroBits)))), 1)); !ok || text != many {
		t.Error("ComplexText of 256 numbers: ", text, ok)
	}
	if text, ok := impl.ComplexText(list(257, complex64(1))); ok || text != "" {
		t.Error("ComplexText of 257 numbers: ", text, ok)
	}
	if back, ok := impl.ReadComplex(many + ",3f80000000000000"); ok || len(back) != 0 {
		t.Error("ReadComplex of 257 numbers: ", len(back), ok)
	}
}

// wrongTexts are texts of no list of any kind.
func wrongTexts() []string {
	return []string{"", ",", "none,", ",none", "none,none", "None", "none ", " none", "NONE", "nil", "x", "\x00", "\xff", "é", "-", "--1", "0x1"}
}

func TestPromise2TextsOfNoNumbers(t *testing.T) {
	wrong := []string{
		"3f80000", "3f8000000", "3F800000", "3f80000g", "3f80000/", "3f80000:", "3f80000`", "-3f80000", "+3f80000", "0x3f8000", "3f_80000",
		" 3f80000", "3f80000 ", "3f800000,", ",3f800000", "3f800000,,3f800000", "3f800000;3f800000", "3f800000, 3f800000", "3f800000,none",
		"3f800000\n", "7f800001", "7fc00001", "7fffffff", "ff800001", "ffc00000", "3f8000é", "3f80000\xff", "00000000,7fc00001", "ééééé",
		"1", "3f80000000000000", "٣f80000", "3f800000,3f80000",
	}
	for _, s := range append(wrong, wrongTexts()...) {
		if back, ok := impl.ReadNumbers(s); ok || len(back) != 0 {
			t.Errorf("ReadNumbers of %q: got %v, want a failure", s, back)
		}
	}
}

func TestPromise2TextsOfNoComplexNumbers(t *testing.T) {
	wrong := []string{
		"3f800000", "3f80000000000000,", ",3f80000000000000", "3f8000000000000", "3f800000000000000", "3f800000,00000000", "3f8000007fc00001",
		"ffc0000000000000", "3F80000000000000", "3f800000-0000000", "3f80000g00000000", "3f800000 0000000", "3f80000\xff00000000", "3f80000é0000000",
		"3f80000000000000,none", "3f80000000000000,,3f80000000000000", "3f80000000000000;3f80000000000000", "éééééééé",
	}
	for _, s := range append(wrong, wrongTexts()...) {
		if back, ok := impl.ReadComplex(s); ok || len(back) != 0 {
			t.Errorf("ReadComplex of %q: got %v, want a failure", s, back)
		}
	}
}

func TestPromise2Names(t *testing.T) {
	for _, s := range []string{"a", "z", "ring", "abcdefgh", "zzzzzzzz", "none"} {
		if !impl.IsName(s) {
			t.Errorf("IsName of %q: got false", s)
		}
	}
	for _, s := range []string{"", "abcdefghi", "A", "aB", "a1", "1", "a b", " a", "a ", "a\n", "`", "{", "é", "\xff", "a\x00", "aé", "ａ", "-"} {
		if impl.IsName(s) {
			t.Errorf("IsName of %q: got true", s)
		}
	}
}

func TestPromise2Decimals(t *testing.T) {
	for _, n := range []int64{0, 1, -1, 9, 10, -10, 99, 12345678901, 999999999999999, 1000000000000000, -1000000000000000} {
		want := strconv.FormatInt(n, 10)
		if impl.Decimal(n) != want {
			t.Errorf("Decimal of %d: got %q", n, impl.Decimal(n))
		}
		if back, ok := impl.ReadDecimal(want); !ok || back != n {
			t.Errorf("ReadDecimal of %q: got %d, %v", want, back, ok)
		}
	}
	if impl.Decimal(math.MinInt64) != "-9223372036854775808" || impl.Decimal(math.MaxInt64) != "9223372036854775807" {
		t.Error("Decimal of the ends: ", impl.Decimal(math.MinInt64), impl.Decimal(math.MaxInt64))
	}
	wrong := []string{
		"1000000000000001", "-1000000000000001", "9223372036854775807", "-9223372036854775808", "9223372036854775808", "18446744073709551617",
		"99999999999999999999999999", "+1", "01", "-01", "00", "-0", "+0", "-", "+", " 1", "1 ", "1\n", "1_0", "1.0", "1e3", "0x1", "a", "1a", "٣", "－1", "1,2",
	}
	for _, s := range append(wrong, wrongTexts()...) {
		if back, ok := impl.ReadDecimal(s); ok || back != 0 {
			t.Errorf("ReadDecimal of %q: got %d, %v, want a failure", s, back, ok)
		}
	}
}

func TestPromise2TextsOfLists(t *testing.T) {
	for _, c := range []struct {
		list []int64
		want string
	}{
		{nil, "none"}, {[]int64{}, "none"}, {[]int64{0}, "0"}, {[]int64{3, -1, 3}, "3,-1,3"},
		{[]int64{1000000000000000, -1000000000000000}, "1000000000000000,-1000000000000000"},
		{append(list(63, int64(0)), -5), strings.Repeat("0,", 63) + "-5"},
	} {
		text, ok := impl.ListText(c.list)
		if text != c.want || !ok {
			t.Errorf("ListText of %v: got %q, %v", c.list, text, ok)
		}
		back, ok := impl.ReadList(c.want)
		if !ok || len(back) != len(c.list) {
			t.Errorf("ReadList of %q: got %v, %v", c.want, back, ok)
			continue
		}
		for i, n := range back {
			if n != c.list[i] {
				t.Errorf("ReadList of %q: got %v", c.want, back)
			}
		}
	}
}

func TestPromise2TextsOfNoLists(t *testing.T) {
	for _, l := range [][]int64{{1000000000000001}, {0, -1000000000000001}, {math.MinInt64, 1}, {math.MaxInt64}, list(65, int64(0))} {
		if text, ok := impl.ListText(l); ok || text != "" {
			t.Errorf("ListText of %v: got %q, want a failure", l, text)
		}
	}
	wrong := []string{
		"1,", ",1", "1,,2", "1, 2", "1;2", "1,+2", "1,02", "1,-0", "1,none", "1000000000000001", "0,-1000000000000001", "1\n", "1,x",
		strings.Repeat("0,", 64) + "0", strings.Repeat(",", 64),
	}
	for _, s := range append(wrong, wrongTexts()...) {
		if back, ok := impl.ReadList(s); ok || len(back) != 0 {
			t.Errorf("ReadList of %q: got %v, want a failure", s, back)
		}
	}
}

func TestPromise2CheckNumbers(t *testing.T) {
	for _, c := range []struct {
		start int64
		text  string
		want  int64
	}{
		{0, "", 0}, {65002, "", 65002}, {0, "a", 236}, {0, "\x00", 139}, {0, "\xff", 394}, {1, "a", 1089}, {65002, "a", 64386},
		{0, "ab", 6536}, {0, "ba", 7388}, {236, "b", 6536}, {0, "é", 25198}, {77, "\x00\xff\n", 15334},
	} {
		if got, ok := impl.CheckOf(c.start, c.text); !ok || got != c.want {
			t.Errorf("CheckOf %q from %d: got %d, %v, want %d", c.text, c.start, got, ok, c.want)
		}
	}
	for _, start := range []int64{-1, 65003, math.MinInt64, math.MaxInt64} {
		if got, ok := impl.CheckOf(start, "a"); ok || got != 0 {
			t.Errorf("CheckOf from %d: got %d, %v, want a failure", start, got, ok)
		}
	}
}
