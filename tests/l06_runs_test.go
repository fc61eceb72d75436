package tests

import (
	"fmt"
	"math"
	"math/rand/v2"
	"strings"
	"testing"

	"loop.example/g01317/impl"
)

func TestPromise7ScalesByHand(t *testing.T) {
	least, most, minus := number(1), number(0x7f7fffff), number(minusZeroBits)
	for _, c := range []struct {
		list []float32
		step float32
		want []int64
	}{
		{[]float32{2.5, -2.5, 0.5}, 1, []int64{2, -2, 0}}, {[]float32{0, minus, -0.5, 0.99}, 1, []int64{0, 0, 0, 0}}, {[]float32{2.5, -2.5}, 0.5, []int64{5, -5}}, {[]float32{1}, 0.1, []int64{10}}, {[]float32{-1}, 0.1, []int64{-10}}, // 1 / 0.1 is a 32-bit 10, but a 64-bit 9.99
		{[]float32{1000000}, 1, []int64{1000000}}, {[]float32{-1000000}, 1, []int64{-1000000}}, {[]float32{1000000.9375}, 1, []int64{1000000}}, {[]float32{-1000000.9375}, 1, []int64{-1000000}}, {[]float32{500000.4375, -500000.4375}, 0.5, []int64{1000000, -1000000}},
		{[]float32{most}, most, []int64{1}}, {[]float32{-most, 1}, most, []int64{-1, 0}}, {[]float32{least, -least}, least, []int64{1, -1}}, {[]float32{0, minus}, least, []int64{0, 0}}, {[]float32{least}, most, []int64{0}}, {list(128, float32(7)), 2, list(128, int64(3))}, {[]float32{0.3}, 0.1, []int64{3}}, {[]float32{7.9999995}, 1, []int64{7}},
	} {
		got, ok := impl.ScaleList(c.list, c.step)
		checkIntegers(t, fmt.Sprint("ScaleList of ", c.list, c.step), got, ok, c.want)
	}
	for _, c := range []struct {
		list        []int64
		step, share float32
		want        []float32
	}{
		{[]int64{2, -2, 0}, 1, 0.5, []float32{2.5, -2.5, 0}}, {[]int64{2, -2, 0}, 1, 0, []float32{2, -2, 0}}, {[]int64{2, -2, 0}, 1, minus, []float32{2, -2, 0}}, {[]int64{2, -2, 0}, 1, 1, []float32{3, -3, 0}}, {[]int64{2, -2, 0}, 0.25, 1, []float32{0.75, -0.75, 0}},
		{[]int64{0, 0}, most, 1, []float32{0, 0}}, {[]int64{1, -1}, most, 0, []float32{most, -most}}, {[]int64{1, -1, 0}, least, 0.5, numbersOf(2, 0x80000002, 0)}, {[]int64{1000000, -1000000}, 1, 0.5, []float32{1000000.5, -1000000.5}}, {[]int64{1000000}, 1, 0.03125, []float32{1000000}}, {[]int64{1000000}, 1, 1, []float32{1000001}}, {[]int64{3}, 0.1, 0.5, numbersOf(0x3eb33333)}, {list(128, int64(-1)), 4, 0.25, list(128, float32(-5))},
	} {
		got, ok := impl.ListOfScale(c.list, c.step, c.share)
		checkNumbers(t, fmt.Sprint("ListOfScale of ", c.list, c.step, c.share), got, ok, c.want)
	}
}

func TestPromise7Scales(t *testing.T) {
	r := rand.New(rand.NewPCG(21, 6))
	for n := 1; n <= 128; n++ {
		for _, x := range roughLists(r, n) {
			for _, step := range []float32{1, 0.1, size32(x[0]), float32(r.Float64()), finitePositive(r)} {
				if step == 0 {
					continue
				}
				want, told := toldScaleList(x, step)
				got, ok := impl.ScaleList(x, step)
				if !told {
					checkNone(t, fmt.Sprint("ScaleList of ", x, step), ok, got)
					continue
				}
				checkIntegers(t, fmt.Sprint("ScaleList of ", x, step), got, ok, want)
				for _, share := range []float32{0, 1, 0.5, float32(r.Float64())} {
					back, ok := impl.ListOfScale(got, step, share)
					checkTold(t, fmt.Sprint("ListOfScale of ", got, step, share), back, ok, toldListOfScale(got, step, share))
				}
			}
		}
	}
}

// A list and what is told of it are less than a step from each other.
func TestPromise7ScalesLeadBack(t *testing.T) {
	r := rand.New(rand.NewPCG(22, 6))
	for range 500 {
		x := smallNumbers(r, 1+r.IntN(128))
		for _, step := range []float32{0.25, 1, 3} {
			integers, _ := impl.ScaleList(x, step)
			for _, share := range []float32{0, 0.5, 1} {
				told, ok := impl.ListOfScale(integers, step, share)
				checkNear(t, fmt.Sprint("ListOfScale of ScaleList of ", x, step, share), told, ok, x, 1.0001*float64(step))
			}
		}
	}
}

func TestPromise7ScalesThatThereAreNot(t *testing.T) {
	least, most := number(1), number(0x7f7fffff)
	check := func(x []float32, step float32) {
		t.Helper()
		got, ok := impl.ScaleList(x, step)
		checkNone(t, fmt.Sprint("ScaleList of ", x, step), ok, got)
	}
	for _, x := range wrongLists() {
		check(x, 1)
	}
	checkBack := func(x []int64, step, share float32) {
		t.Helper()
		got, ok := impl.ListOfScale(x, step, share)
		checkNone(t, fmt.Sprint("ListOfScale of ", x, step, share), ok, got)
	}
	for _, x := range wrongIntegers() {
		checkBack(x, 1, 0.5)
	}
	for _, step := range append(wrongLimits(), 0, number(minusZeroBits)) {
		check([]float32{1}, step)
		check([]float32{0}, step)
		checkBack([]int64{1}, step, 0.5)
		checkBack([]int64{0}, step, 0.5)
	}
	for _, share := range append(wrongLimits(), number(0x3f800001), 2, most) {
		checkBack([]int64{1}, 1, share)
		checkBack([]int64{0}, 1, share)
	}
	check([]float32{1000001}, 1)
	check([]float32{-1000001}, 1)
	check([]float32{0, 1000001, 0}, 1)
	check([]float32{500000.5}, 0.5)
	check([]float32{most}, 1)
	check([]float32{most}, least)
	check([]float32{-1}, least)
	check([]float32{0x1p63}, 1)
	check([]float32{-0x1p63}, 1)
	check([]float32{0x1p64}, 1)
	checkBack([]int64{1}, most, 0.5)
	checkBack([]int64{-1}, most, 0.5)
	checkBack([]int64{0, 2}, most, 0)
	checkBack([]int64{0, 2, 0}, 0x1p127, 0)
}

func TestPromise7RunsByHand(t *testing.T) {
	for _, c := range []struct {
		list []int64
		k    int64
		bits string
	}{
		{[]int64{1}, 1, "100"}, {[]int64{0}, 0, "0"}, {[]int64{-1}, 0, "10"}, {[]int64{3, -1}, 1, "11100" + "01"}, {[]int64{3, -1}, 0, "1111110" + "10"}, {[]int64{3, -1}, 2, "1010" + "001"}, {[]int64{3, -1}, 3, "0110" + "0001"}, {list(128, int64(0)), 0, strings.Repeat("0", 128)},
		{[]int64{0}, 20, "0" + strings.Repeat("0", 20)}, {[]int64{1000000}, 20, "10" + "11101000010010000000"}, {[]int64{-1000000}, 20, "10" + "11101000010001111111"}, {[]int64{1, 0, -2}, 1, "100" + "00" + "101"}, {[]int64{-16384}, 0, strings.Repeat("1", 32767) + "0"}, {[]int64{16383}, 0, strings.Repeat("1", 32766) + "0"},
	} {
		bits, ok := impl.RiceCode(c.list, c.k)
		checkBits(t, fmt.Sprint("RiceCode of ", c.list, c.k), bits, ok, c.bits)
		long, ok := impl.RiceLong(c.list, c.k)
		checkCount(t, fmt.Sprint("RiceLong of ", c.list, c.k), long, ok, int64(len(c.bits)))
		back, ok := impl.FromRice(bitsOfText(c.bits), int64(len(c.list)), c.k)
		checkIntegers(t, fmt.Sprint("FromRice of ", c.list, c.k), back, ok, c.list)
	}
	for _, c := range []struct {
		list       []int64
		k, long    int64
		best, most int64
	}{
		{[]int64{3, -1}, 1, 7, 1, 7}, {[]int64{0}, 0, 1, 0, 1}, {list(128, int64(0)), 20, 2688, 0, 128}, {[]int64{1000000}, 0, 2000001, 20, 22}, {list(128, int64(1000000)), 0, 256000128, 20, 2816}, {list(128, int64(-1000000)), 20, 2816, 20, 2816}, {[]int64{16384}, 0, 32769, 14, 17}, {[]int64{-1}, 0, 2, 0, 2}, {[]int64{1}, 0, 3, 0, 3},
	} {
		long, ok := impl.RiceLong(c.list, c.k)
		checkCount(t, fmt.Sprint("RiceLong of ", c.list, c.k), long, ok, c.long)
		best, most, ok := impl.BestRice(c.list)
		checkCount(t, fmt.Sprint("BestRice of ", c.list), best, ok, c.best)
		checkCount(t, fmt.Sprint("the length by BestRice of ", c.list), most, ok, c.most)
	}
}

func TestPromise7RunsTellTheirIntegers(t *testing.T) {
	r := rand.New(rand.NewPCG(23, 6))
	for n := 1; n <= 128; n += 1 + n/10 {
		for _, x := range manyIntegers(r, n) {
			best, least := int64(-1), int64(math.MaxInt64)
			for k := int64(20); k >= 0; k-- {
				want := toldRiceLong(x, k)
				if want <= least {
					best, least = k, want
				}
				long, ok := impl.RiceLong(x, k)
				checkCount(t, fmt.Sprint("RiceLong of ", x, k), long, ok, want)
				bits, ok := impl.RiceCode(x, k)
				if want > 32768 {
					checkNone(t, fmt.Sprint("RiceCode of ", x, k), ok, bits)
					continue
				}
				checkBits(t, fmt.Sprint("RiceCode of ", x, k), bits, ok, toldRice(x, k))
				back, ok := impl.FromRice(bits, int64(n), k)
				checkIntegers(t, fmt.Sprint("FromRice of ", x, k), back, ok, x)
			}
			k, long, ok := impl.BestRice(x)
			checkCount(t, fmt.Sprint("BestRice of ", x), k, ok, best)
			checkCount(t, fmt.Sprint("the length by BestRice of ", x), long, ok, least)
		}
	}
}

func TestPromise7RunsThatThereAreNot(t *testing.T) {
	check := func(x []int64, k int64) {
		t.Helper()
		long, ok := impl.RiceLong(x, k)
		checkNone(t, fmt.Sprint("RiceLong of ", x, k), ok, long)
		bits, ok := impl.RiceCode(x, k)
		checkNone(t, fmt.Sprint("RiceCode of ", x, k), ok, bits)
	}
	for _, x := range wrongIntegers() {
		check(x, 0)
		check(x, 20)
		best, long, ok := impl.BestRice(x)
		checkNone(t, fmt.Sprint("BestRice of ", x), ok, best, long)
	}
	for _, k := range []int64{-1, 21, 63, 64, 1 << 32, math.MinInt64, math.MaxInt64} {
		check([]int64{0}, k)
		back, ok := impl.FromRice(bitsOfText("0"), 1, k)
		checkNone(t, fmt.Sprint("FromRice with ", k), ok, back)
		back, ok = impl.FromRice(list(22, false), 1, k)
		checkNone(t, fmt.Sprint("FromRice with ", k), ok, back)
	}
	for _, x := range [][]int64{{16384}, {-16384, 0}, {1000000}, {8192, 8192}, list(128, int64(1000000))} {
		bits, ok := impl.RiceCode(x, 0)
		checkNone(t, fmt.Sprint("RiceCode of ", x), ok, bits)
	}
}

func TestPromise7RunsThatTellNoIntegers(t *testing.T) {
	zeros := strings.Repeat("0", 20)
	for _, c := range []struct {
		bits     string
		count, k int64
	}{
		{"", 1, 0}, {"1", 1, 0}, {"11", 1, 0}, {"00", 1, 0}, {"010", 1, 0}, {"0", 2, 0}, {"01", 2, 0}, {"", 1, 1}, {"0", 1, 1}, {"1", 1, 1}, {"10", 1, 1}, {"1000", 1, 1}, {"000", 1, 1}, {"0" + zeros[1:], 1, 20}, {"0" + zeros + "0", 1, 20}, {"10" + "11101000010010000001", 1, 20}, {"10" + strings.Repeat("1", 20), 1, 20}, {"110" + zeros, 1, 20}, // as 2000001 and 2097152
		{strings.Repeat("1", 32767) + "0", 1, 6}, {strings.Repeat("1", 32768), 1, 0}, {strings.Repeat("1", 32768) + "0", 1, 0}, {strings.Repeat("1", 32748) + "0" + zeros[1:], 1, 20}, {strings.Repeat("1", 32747) + "0" + zeros, 1, 20}, {strings.Repeat("0", 32769), 128, 0}, {strings.Repeat("0", 32768), 128, 0}, {strings.Repeat("0", 127), 128, 0}, {strings.Repeat("0", 129), 128, 0},
		{"0", 0, 0}, {"", 0, 0}, {"0", -1, 0}, {strings.Repeat("0", 129), 129, 0}, {"0", math.MaxInt64, 0}, {"0", math.MinInt64, 0}, {"", -1, 20},
	} {
		got, ok := impl.FromRice(bitsOfText(c.bits), c.count, c.k)
		checkNone(t, fmt.Sprintf("FromRice of %.30s.. with %d and %d", c.bits, c.count, c.k), ok, got)
	}
	// The longest stream that tells integers, and the greatest one by runs alone.
	got, ok := impl.FromRice(bitsOfText(strings.Repeat("1", 32767)+"0"), 1, 0)
	checkIntegers(t, "FromRice of the longest stream", got, ok, []int64{-16384})
	got, ok = impl.FromRice(bitsOfText(strings.Repeat("1", 31250)+"0000000"), 1, 6)
	checkIntegers(t, "FromRice of a long run", got, ok, []int64{1000000})
	got, ok = impl.FromRice(bitsOfText(strings.Repeat("1", 31250)+"0000001"), 1, 6)
	checkNone(t, "FromRice of a run that is too long", ok, got)
	got, ok = impl.FromRice(bitsOfText(strings.Repeat("0", 128)), 128, 0)
	checkIntegers(t, "FromRice of the most numbers", got, ok, list(128, int64(0)))
}

// Any bits tell integers only if these have the same bits again.
func TestPromise7AnyBitsOfRuns(t *testing.T) {
	r := rand.New(rand.NewPCG(24, 6))
	found := 0
	for range 20000 {
		count, k := 1+r.Int64N(4), r.Int64N(4)
		if r.IntN(4) == 0 {
			k = 17 + r.Int64N(4)
		}
		text := anyBits(r, int(count*(1+k))+r.IntN(3))
		got, ok := impl.FromRice(bitsOfText(text), count, k)
		if !ok {
			checkNone(t, fmt.Sprint("FromRice of ", text, count, k), ok, got)
			continue
		}
		found++
		if int64(len(got)) != count || toldRice(got, k) != text {
			t.Error("FromRice of ", text, count, k, ": ", got)
		}
	}
	if found < 1000 {
		t.Error("only ", found, " texts of bits tell integers")
	}
}

func TestPromise7TextsOfBits(t *testing.T) {
	for _, text := range []string{"", "0", "1", "10", "100111", strings.Repeat("01", 16384), strings.Repeat("1", 32768), strings.Repeat("0", 32767) + "1"} {
		bits, ok := impl.ReadBits(text)
		checkBits(t, fmt.Sprintf("ReadBits of %.20s", text), bits, ok, text)
		got, ok := impl.BitText(bitsOfText(text))
		if !ok || got != text {
			t.Errorf("BitText of %.20s: %.20s, %v", text, got, ok)
		}
	}
	for _, text := range []string{"12", "2", " ", "1 ", " 1", "/", ":", "1\n", "\n", "+1", "-1", "0x1", "1,0", "none", "\x00", "\x01", "1\x00", "\xff", "1\xff", "\xb1", "１", "१", "true", "ı", "01\u0660", "0\xf0\x9f", strings.Repeat("0", 32769), strings.Repeat("1", 100000)} {
		bits, ok := impl.ReadBits(text)
		checkNone(t, fmt.Sprintf("ReadBits of %.20q", text), ok, bits)
	}
	for _, count := range []int{32769, 40000, 100000} {
		text, ok := impl.BitText(list(count, false))
		checkNone(t, fmt.Sprint("BitText of ", count), ok, text)
	}
}

func TestPromise7Entropies(t *testing.T) {
	for _, c := range []struct {
		list []int64
		want uint32
	}{
		{[]int64{1, 2}, 0x3f800000}, {[]int64{5}, minusZeroBits}, {[]int64{0}, minusZeroBits}, {[]int64{0, 0}, minusZeroBits}, {list(128, int64(-1000000)), minusZeroBits}, {[]int64{0, 0, 1}, 0x3f6b1570}, {[]int64{1, 0, 0}, 0x3f6b1570}, {[]int64{0, 1, 0}, 0x3f6b1570}, {[]int64{1, 2, 3}, 0x3fcae00d}, {[]int64{1, 2, 3, 4}, 0x40000000}, {[]int64{1, -1, 1, -1}, 0x3f800000}, {indexList(128), 0x40e00001}, {append(list(127, int64(1)), 2), 0x3d86fe23},
		{[]int64{1, 1, 2, 2, 2, 3}, 0x3fbac55c}, {[]int64{1, 2, 3, 4, 5}, 0x40149a78}, {[]int64{1, 2, 2, 3, 3, 3, 4, 4, 4, 4}, 0x3fec5821}, {[]int64{1000000, -1000000}, 0x3f800000},
		{[]int64{-3, 1, -2, -3, 2, -2, 0, -1, -2, 3}, 0x40295f42}, {[]int64{2, -1, -3, -1, -1, 3, -1, 0, 2, -1, -2}, 0x400e3864}, {[]int64{-1, -2, -1, -1, 2, 1, -3, -1, 2, -1}, 0x3ffb00dd}, {[]int64{1, 3, 1, -1, -3, 3, 3, 3, -1, 2, 1, 2}, 0x400c1406}, // in any other order, or divided one by one, these differ
	} {
		got, ok := impl.EntropyOf(c.list)
		checkFound(t, fmt.Sprint("EntropyOf ", c.list), got, ok, c.want, true)
	}
	r := rand.New(rand.NewPCG(25, 6))
	for n := 1; n <= 128; n++ {
		for _, x := range manyIntegers(r, n) {
			got, ok := impl.EntropyOf(x)
			checkFound(t, fmt.Sprint("EntropyOf ", x), got, ok, bitsOf(toldEntropy(x)), true)
		}
	}
	for _, x := range wrongIntegers() {
		got, ok := impl.EntropyOf(x)
		checkFound(t, fmt.Sprint("EntropyOf ", x), got, ok, 0, false)
	}
}
