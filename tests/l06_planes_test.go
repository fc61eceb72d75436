package tests

import (
	"fmt"
	"math"
	"math/rand/v2"
	"strings"
	"testing"

	"loop.example/g01317/impl"
)

// million has the binary digits of 1000000.
const million = "11110100001001000000"

func checkBits(t *testing.T, what string, got []bool, ok bool, want string) {
	t.Helper()
	if !ok || textOfBits(got) != want {
		t.Errorf("%s: got %s, %v, want %s", what, textOfBits(got), ok, want)
	}
}

func checkCount(t *testing.T, what string, got int64, ok bool, want int64) {
	t.Helper()
	if !ok || got != want {
		t.Errorf("%s: got %d, %v, want %d", what, got, ok, want)
	}
}

// checkNone checks what a function that fails returns besides.
func checkNone(t *testing.T, what string, ok bool, results ...any) {
	t.Helper()
	for _, r := range results {
		if s := fmt.Sprint(r); ok || s != "0" && s != "[]" && s != "" {
			t.Errorf("%s: got %v, %v, want a failure", what, r, ok)
		}
	}
}

func TestPromise7ConstantsOfCodes(t *testing.T) {
	if impl.MaxStream != 32768 || impl.MaxPlanes != 24 {
		t.Error("constants of chapter 6 are not as they are told")
	}
}

// wrongCodes are those that are not valid.
func wrongCodes() []impl.Coded {
	all := []impl.Coded{{}, {Count: 1, Bits: list(32769, false)}, {Count: 128, Top: 24, Bits: list(100000, true)}}
	for _, n := range []int64{0, -1, 129, 1 << 32, math.MinInt64, math.MaxInt64} {
		all = append(all, codedOf(n, 1, "0"), codedOf(n, 0, ""))
	}
	for _, n := range []int64{-1, 25, 64, 1 << 32, math.MinInt64, math.MaxInt64} {
		all = append(all, codedOf(1, n, "0"), codedOf(2, n, ""))
	}
	return all
}

func TestPromise7ValidCodes(t *testing.T) {
	for _, c := range []impl.Coded{codedOf(1, 0, ""), codedOf(128, 24, ""), codedOf(1, 0, "1111"), codedOf(2, 2, "100111"), {Count: 1, Bits: list(32768, false)}, {Count: 128, Top: 24, Bits: list(32768, true)}} {
		if !impl.ValidCoded(c) {
			t.Error("ValidCoded is false for ", c.Count, c.Top, len(c.Bits))
		}
	}
	for _, c := range wrongCodes() {
		if impl.ValidCoded(c) {
			t.Error("ValidCoded is true for ", c.Count, c.Top, len(c.Bits))
		}
	}
}

func TestPromise7SameCodes(t *testing.T) {
	for _, c := range [][2]impl.Coded{
		{codedOf(2, 2, "100111"), codedOf(2, 2, "100111")}, {{}, {Bits: []bool{}}}, {codedOf(-5, 99, "1"), codedOf(-5, 99, "1")}, {{Count: 1, Bits: list(40000, true)}, {Count: 1, Bits: list(40000, true)}}, {codedOf(math.MaxInt64, math.MinInt64, ""), codedOf(math.MaxInt64, math.MinInt64, "")},
	} {
		if !impl.SameCoded(c[0], c[1]) || !impl.SameCoded(c[1], c[0]) {
			t.Error("SameCoded is false for ", c)
		}
	}
	for _, c := range [][2]impl.Coded{
		{codedOf(2, 2, "100111"), codedOf(2, 2, "10011")}, {codedOf(2, 2, "100111"), codedOf(2, 2, "100110")}, {codedOf(2, 2, "100111"), codedOf(2, 2, "000111")}, {codedOf(2, 2, "1"), codedOf(3, 2, "1")}, {codedOf(2, 2, "1"), codedOf(2, 3, "1")}, {codedOf(1, 2, ""), codedOf(2, 1, "")}, {codedOf(1, 1, ""), codedOf(1, 1, "0")},
		{codedOf(-1, 1, ""), codedOf(1, 1, "")}, {{Count: 1, Bits: list(40000, true)}, {Count: 1, Bits: list(40001, true)}},
	} {
		if impl.SameCoded(c[0], c[1]) || impl.SameCoded(c[1], c[0]) {
			t.Error("SameCoded is true for ", c)
		}
	}
}

func TestPromise7Planes(t *testing.T) {
	for _, c := range []struct {
		list []int64
		want int64
	}{
		{[]int64{3, -1}, 2}, {[]int64{0}, 0}, {[]int64{0, 0, 0}, 0}, {list(128, int64(0)), 0}, {[]int64{1}, 1}, {[]int64{-1}, 1}, {[]int64{2}, 2}, {[]int64{-4, 3}, 3}, {[]int64{3, -4}, 3}, {[]int64{524287}, 19}, {[]int64{524288}, 20}, {[]int64{-524287}, 19}, {[]int64{-524288}, 20}, {[]int64{1000000}, 20}, {[]int64{-1000000}, 20}, {append(list(127, int64(0)), -1), 1}, {list(128, int64(-1000000)), 20},
	} {
		got, ok := impl.PlanesFor(c.list)
		checkCount(t, fmt.Sprint("PlanesFor ", c.list), got, ok, c.want)
	}
	for _, c := range []struct {
		list  []int64
		plane int64
		want  string
	}{
		{[]int64{3, -1}, 1, "10"}, {[]int64{3, -1}, 0, "11"}, {[]int64{3, -1}, 2, "00"}, {[]int64{-2, -3, 0}, 0, "010"}, {[]int64{-2, -3, 0}, 1, "110"}, {[]int64{1000000, -1000000}, 19, "11"}, {[]int64{1000000, -1000000}, 20, "00"}, {[]int64{1000000, -1000000}, 23, "00"}, {[]int64{1000000, -1000000}, 6, "11"}, {[]int64{-1000000}, 5, "0"}, {list(128, int64(-1)), 0, strings.Repeat("1", 128)},
	} {
		got, ok := impl.PlaneOf(c.list, c.plane)
		checkBits(t, fmt.Sprint("PlaneOf ", c.list, c.plane), got, ok, c.want)
	}
	r := rand.New(rand.NewPCG(1, 6))
	for n := 1; n <= 128; n++ {
		for _, x := range manyIntegers(r, n) {
			planes, ok := impl.PlanesFor(x)
			checkCount(t, fmt.Sprint("PlanesFor ", x), planes, ok, toldPlanes(x))
			for plane := range int64(24) {
				got, ok := impl.PlaneOf(x, plane)
				checkBits(t, fmt.Sprint("PlaneOf ", x, plane), got, ok, toldPlane(x, plane))
			}
		}
	}
}

func TestPromise7PlanesThatThereAreNot(t *testing.T) {
	for _, x := range wrongIntegers() {
		planes, ok := impl.PlanesFor(x)
		checkNone(t, fmt.Sprint("PlanesFor ", x), ok, planes)
		plane, ok := impl.PlaneOf(x, 0)
		checkNone(t, fmt.Sprint("PlaneOf ", x), ok, plane)
	}
	for _, plane := range []int64{-1, 24, 25, 63, 64, 1 << 32, math.MinInt64, math.MaxInt64} {
		got, ok := impl.PlaneOf([]int64{3, -1}, plane)
		checkNone(t, fmt.Sprint("PlaneOf ", plane), ok, got)
	}
}

func TestPromise7ZigZags(t *testing.T) {
	for n, z := range map[int64]int64{0: 0, -1: 1, 1: 2, -2: 3, 2: 4, 1000000: 2000000, -1000000: 1999999, 999999: 1999998, -999999: 1999997} {
		got, ok := impl.ZigZag(n)
		checkCount(t, fmt.Sprint("ZigZag of ", n), got, ok, z)
		got, ok = impl.FromZigZag(z)
		checkCount(t, fmt.Sprint("FromZigZag of ", z), got, ok, n)
	}
	for z := range int64(2000001) {
		n, one := impl.FromZigZag(z)
		if back, two := impl.ZigZag(n); !one || !two || back != z || toldZigZag(n) != z {
			t.Fatal("ZigZag of FromZigZag of ", z, ": ", n, one, back, two)
		}
	}
	for _, n := range []int64{1000001, -1000001, 2000000, 1 << 62, math.MinInt64, math.MaxInt64} {
		got, ok := impl.ZigZag(n)
		checkNone(t, fmt.Sprint("ZigZag of ", n), ok, got)
	}
	for _, z := range []int64{-1, -2, 2000001, 2000002, 1 << 62, math.MinInt64, math.MaxInt64} {
		got, ok := impl.FromZigZag(z)
		checkNone(t, fmt.Sprint("FromZigZag of ", z), ok, got)
	}
}

func TestPromise7CodesByHand(t *testing.T) {
	for _, c := range []struct {
		list []int64
		top  int64
		bits string
	}{
		{[]int64{3, -1}, 2, "100111"}, {[]int64{0}, 0, ""}, {list(128, int64(0)), 0, ""}, {[]int64{1}, 1, "10"}, {[]int64{-1}, 1, "11"}, {[]int64{0, 1, 0}, 1, "0100"}, {[]int64{-2, 1}, 2, "110" + "010"}, {[]int64{2, 3, -3}, 2, "101011" + "011"}, {[]int64{1000000}, 20, "10" + million[1:]}, {[]int64{-1000000}, 20, "11" + million[1:]}, {list(128, int64(-1)), 1, strings.Repeat("1", 256)},
		{[]int64{5, 0, -8}, 4, "0011" + "1000" + "000" + "100"},
	} {
		coded, ok := impl.CodeList(c.list)
		if !ok || coded.Count != int64(len(c.list)) || coded.Top != c.top {
			t.Error("CodeList of ", c.list, ": ", coded, ok)
		}
		checkBits(t, fmt.Sprint("CodeList of ", c.list), coded.Bits, ok, c.bits)
		back, ok := impl.ListFrom(codedOf(int64(len(c.list)), c.top, c.bits))
		checkIntegers(t, fmt.Sprint("ListFrom ", c.bits), back, ok, c.list)
	}
	longest, ok := impl.CodeList(list(128, int64(-1000000)))
	if !ok || len(longest.Bits) != 2688 {
		t.Error("CodeList of the greatest integers has ", len(longest.Bits), " bits")
	}
}

func TestPromise7CodesThatAreCutByHand(t *testing.T) {
	for _, c := range []struct {
		count, top int64
		bits       string
		want       []int64
	}{
		{2, 2, "", []int64{0, 0}}, {2, 2, "1", []int64{0, 0}}, {2, 2, "10", []int64{2, 0}}, {2, 2, "100", []int64{2, 0}}, {2, 2, "1001", []int64{3, 0}}, {2, 2, "10011", []int64{3, 0}}, {2, 2, "100111", []int64{3, -1}},
		{1, 0, "", []int64{0}}, {128, 0, "", list(128, int64(0))}, {128, 24, "", list(128, int64(0))}, {1, 1, "0", []int64{0}}, {1, 1, "1", []int64{0}}, {2, 1, "1", []int64{0, 0}}, {2, 1, "11", []int64{-1, 0}}, {2, 1, "111", []int64{-1, 0}}, {2, 1, "01", []int64{0, 0}}, {2, 1, "011", []int64{0, -1}},
		{1, 24, "1", []int64{0}}, {1, 24, "0001", []int64{0}}, {1, 24, "0000" + "10" + million[1:], []int64{1000000}}, {1, 24, "0000" + "11" + million[1:], []int64{-1000000}}, {1, 20, "10" + million[1:], []int64{1000000}}, {1, 20, "10" + million[1:19], []int64{1000000}}, {1, 24, "000010", []int64{524288}}, {1, 24, strings.Repeat("0", 24), []int64{0}}, {2, 24, strings.Repeat("0", 47) + "1", []int64{0, 0}}, {2, 24, strings.Repeat("0", 47) + "11", []int64{0, -1}},
		{1, 5, "000", []int64{0}}, {1, 5, "00010", []int64{2}}, {1, 5, "000111", []int64{-3}}, {2, 3, "0111", []int64{0, -4}}, {2, 3, "01110", []int64{2, -4}}, {2, 3, "01111", []int64{-2, -4}}, {2, 3, "011101", []int64{2, -6}}, {2, 3, "011111", []int64{-2, -6}},
	} {
		got, ok := impl.ListFrom(codedOf(c.count, c.top, c.bits))
		checkIntegers(t, fmt.Sprint("ListFrom ", c.count, c.top, c.bits), got, ok, c.want)
		told, ok := toldIntegers(c.count, c.top, c.bits)
		checkIntegers(t, fmt.Sprint("the integers of ", c.bits, ", in another way"), told, ok, c.want)
	}
}

func TestPromise7CodesThatTellNoIntegers(t *testing.T) {
	check := func(c impl.Coded) {
		t.Helper()
		got, ok := impl.ListFrom(c)
		checkNone(t, fmt.Sprint("ListFrom ", c.Count, c.Top, len(c.Bits)), ok, got)
	}
	for _, c := range wrongCodes() {
		check(c)
	}
	for _, c := range []impl.Coded{
		codedOf(1, 0, "0"), codedOf(1, 0, "1"), codedOf(128, 0, "0"), codedOf(1, 1, "00"), codedOf(1, 1, "101"), codedOf(1, 1, "100"), codedOf(2, 2, "1001110"), codedOf(2, 1, "000"), codedOf(2, 1, "0100"), codedOf(1, 24, strings.Repeat("0", 25)), // too many bits
		codedOf(1, 24, "10"), codedOf(1, 24, "11"), codedOf(1, 21, "10"), codedOf(1, 21, "11"), codedOf(1, 20, "10"+million[1:19]+"1"), codedOf(1, 20, "11"+million[1:19]+"1"), codedOf(1, 20, "1011111"), codedOf(2, 20, "10"+"0"+"1"+"0"+"1"+"0"+"1"+"0"+"1"), // too great numbers
		{Count: 128, Top: 24, Bits: list(32768, false)}, {Count: 1, Top: 24, Bits: list(32768, true)}, {Count: 128, Top: 24, Bits: list(3073, false)},
	} {
		check(c)
	}
	got, ok := impl.ListFrom(impl.Coded{Count: 128, Top: 24, Bits: list(3072, false)})
	checkIntegers(t, "ListFrom the most digits", got, ok, list(128, int64(0)))
}

func TestPromise7CodesTellTheirIntegers(t *testing.T) {
	r := rand.New(rand.NewPCG(2, 6))
	for n := 1; n <= 128; n += 1 + n/8 {
		for _, x := range manyIntegers(r, n) {
			coded, ok := impl.CodeList(x)
			if coded.Count != int64(n) || coded.Top != toldPlanes(x) || !impl.ValidCoded(coded) {
				t.Error("CodeList of ", x, ": ", coded.Count, coded.Top)
			}
			checkBits(t, fmt.Sprint("CodeList of ", x), coded.Bits, ok, toldBits(x, 0))
			back, ok := impl.ListFrom(coded)
			checkIntegers(t, "ListFrom CodeList", back, ok, x)
			for plane := range int64(25) {
				count, ok := impl.BitsUntil(x, plane)
				checkCount(t, fmt.Sprint("BitsUntil ", x, plane), count, ok, int64(len(toldBits(x, plane))))
				checkCutAtPlane(t, x, coded, count, plane)
			}
		}
	}
}

// checkCutAtPlane checks that a code that is cut behind a plane has all its digits.
func checkCutAtPlane(t *testing.T, x []int64, coded impl.Coded, count, plane int64) {
	t.Helper()
	want := []int64{}
	for _, n := range x {
		want = append(want, n-n%(1<<plane))
	}
	cut, _ := impl.CutCoded(coded, count)
	got, ok := impl.ListFrom(cut)
	checkIntegers(t, fmt.Sprint("ListFrom what is cut at the plane ", plane), got, ok, want)
}

func TestPromise7CodesThatAreCut(t *testing.T) {
	r := rand.New(rand.NewPCG(3, 6))
	for n := 1; n <= 128; n += 1 + n/4 {
		for _, x := range manyIntegers(r, n) {
			coded, _ := impl.CodeList(x)
			text, before := textOfBits(coded.Bits), make([]int64, n)
			for count := range len(text) + 1 {
				cut, ok := impl.CutCoded(coded, int64(count))
				if !ok || codedSeen(cut) != seen(int64(n), coded.Top, text[:count]) {
					t.Fatal("CutCoded of ", x, " with ", count, ": ", codedSeen(cut), ok)
				}
				want, _ := toldIntegers(int64(n), coded.Top, text[:count])
				got, ok := impl.ListFrom(cut)
				checkIntegers(t, fmt.Sprint("ListFrom CutCoded of ", x, " with ", count), got, ok, want)
				for i := range got {
					if size := math.Abs(float64(got[i])); size < math.Abs(float64(before[i])) || size > math.Abs(float64(x[i])) || got[i] != 0 && signOf(got[i]) != signOf(x[i]) {
						t.Error("a cut code of ", x, " tells ", got, " and, with a bit less, ", before)
					}
				}
				before = got
			}
		}
	}
}

func TestPromise7AnyBitsTellIntegers(t *testing.T) {
	r := rand.New(rand.NewPCG(4, 6))
	for range 20000 {
		count, top := 1+r.Int64N(5), r.Int64N(25)
		text := anyBits(r, r.IntN(int(count*top)+3))
		if r.IntN(2) == 0 {
			text = strings.Repeat("0", int(min(top, 4)*count)) + text
		}
		want, told := toldIntegers(count, top, text)
		got, ok := impl.ListFrom(codedOf(count, top, text))
		if !told {
			checkNone(t, fmt.Sprint("ListFrom ", count, top, text), ok, got)
			continue
		}
		checkIntegers(t, fmt.Sprint("ListFrom ", count, top, text), got, ok, want)
	}
}

func TestPromise7CutsThatThereAreNot(t *testing.T) {
	check := func(c impl.Coded, count int64) {
		t.Helper()
		cut, ok := impl.CutCoded(c, count)
		checkNone(t, fmt.Sprint("CutCoded of ", c.Count, c.Top, len(c.Bits)), ok, cut.Count, cut.Top, cut.Bits)
	}
	for _, c := range wrongCodes() {
		check(c, 0)
		check(c, 1)
	}
	for _, count := range []int64{-1, 7, 8, 32768, math.MinInt64, math.MaxInt64} {
		check(codedOf(2, 2, "100111"), count)
	}
	check(codedOf(1, 0, ""), 1)
	check(codedOf(1, 0, ""), -1)
	// Bits are cut that tell no integers.
	for _, c := range []impl.Coded{codedOf(1, 0, "10"), codedOf(1, 24, "11"), {Count: 1, Bits: list(32768, true)}} {
		for _, count := range []int64{0, 1, 2, int64(len(c.Bits))} {
			cut, ok := impl.CutCoded(c, count)
			if !ok || codedSeen(cut) != seen(c.Count, c.Top, textOfBits(c.Bits[:count])) {
				t.Error("CutCoded of bits that tell no integers: ", cut, ok)
			}
		}
	}
}

func TestPromise7BitsOfPlanes(t *testing.T) {
	for _, c := range []struct {
		list        []int64
		plane, want int64
	}{
		{[]int64{3, -1}, 1, 3}, {[]int64{3, -1}, 0, 6}, {[]int64{3, -1}, 2, 0}, {[]int64{3, -1}, 24, 0}, {[]int64{0}, 0, 0}, {list(128, int64(0)), 0, 0}, {[]int64{1000000}, 19, 2}, {[]int64{-1000000}, 0, 21}, {[]int64{1000000}, 20, 0}, {list(128, int64(-1000000)), 0, 2688}, {list(128, int64(1)), 0, 256}, {[]int64{4, 1}, 1, 5},
	} {
		got, ok := impl.BitsUntil(c.list, c.plane)
		checkCount(t, fmt.Sprint("BitsUntil ", c.list, c.plane), got, ok, c.want)
	}
	for _, plane := range []int64{-1, 25, 64, 1 << 32, math.MinInt64, math.MaxInt64} {
		for _, x := range [][]int64{{3, -1}, {0}} {
			got, ok := impl.BitsUntil(x, plane)
			checkNone(t, fmt.Sprint("BitsUntil ", x, plane), ok, got)
		}
	}
	for _, x := range wrongIntegers() {
		got, ok := impl.BitsUntil(x, 0)
		checkNone(t, fmt.Sprint("BitsUntil ", x), ok, got)
		got, ok = impl.BitsUntil(x, 24)
		checkNone(t, fmt.Sprint("BitsUntil ", x), ok, got)
		coded, ok := impl.CodeList(x)
		checkNone(t, fmt.Sprint("CodeList of ", x), ok, coded.Count, coded.Top, coded.Bits)
	}
}
