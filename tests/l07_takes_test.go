package tests

import (
	"fmt"
	"math"
	"math/rand/v2"
	"slices"
	"strings"
	"testing"

	"loop.example/g01317/impl"
)

func takesSeen(all ...impl.Take) string {
	texts := []string{}
	for _, t := range all {
		texts = append(texts, fmt.Sprintf("%q %d %s", t.Name, t.Rate, seen(t.Values)))
	}
	return strings.Join(texts, "; ")
}

// wrongTakes are those that are not valid.
func wrongTakes() []impl.Take {
	one := []float32{1}
	all := []impl.Take{{}, {Name: "a", Rate: 1}, {Name: "a", Rate: 1, Values: []float32{}}, {Name: "a", Rate: 1, Values: list(129, float32(1))}, {Name: "a", Rate: 1, Values: list(1000, float32(1))}}
	for _, name := range []string{"", "abcdefghi", strings.Repeat("a", 255), strings.Repeat("a", 256), strings.Repeat("a", 257), "A", "a1", "a b", " a", "a\x00", "ä", "`", "{", "a\n"} {
		all = append(all, impl.Take{Name: name, Rate: 1, Values: one})
	}
	for _, rate := range []int64{0, -1, 65536, 65537, math.MinInt64, math.MaxInt64} {
		all = append(all, impl.Take{Name: "a", Rate: rate, Values: one})
	}
	return all
}

// takesAtLimits are valid ones with as little and as much as there may be.
func takesAtLimits() []impl.Take {
	full := numbersOf(0x80000001, 1, 0xffffffff)
	for len(full) < 128 {
		full = append(full, number([]uint32{0xff7fffff, 0}[len(full)%2]))
	}
	return []impl.Take{
		{Name: "a", Rate: 1, Values: []float32{0}}, {Name: "zzzzzzzz", Rate: 65535, Values: full}, {Name: "abcdefgh", Rate: 256, Values: list(128, float32(0))}, {Name: "az", Rate: 255, Values: numbersOf(minusZeroBits, 0, infinityBits, 0xff800000, notANumberBits, notANumberBits, 1)},
	}
}

func TestPromise8Takes(t *testing.T) {
	for _, take := range takesAtLimits() {
		if !impl.ValidTake(take) {
			t.Error("ValidTake is false for ", take)
		}
	}
	for _, take := range wrongTakes() {
		if impl.ValidTake(take) {
			t.Error("ValidTake is true for ", take)
		}
		stored, ok := impl.StoreTake(take)
		checkNone(t, fmt.Sprint("StoreTake of ", take), ok, stored)
		for _, all := range [][]impl.Take{{take}, {takesAtLimits()[0], take}, {take, takesAtLimits()[0]}} {
			stored, ok = impl.StoreTakes(all)
			checkNone(t, fmt.Sprint("StoreTakes of ", all), ok, stored)
		}
	}
}

func TestPromise8SameTakes(t *testing.T) {
	odd, minus := number(0x7f800001), number(minusZeroBits)
	a := impl.Take{Name: "a", Rate: 3, Values: []float32{1, minus, odd}}
	for _, c := range []struct{ a, b []impl.Take }{
		{nil, nil}, {nil, []impl.Take{}}, {[]impl.Take{{}}, []impl.Take{{Values: []float32{}}}}, {[]impl.Take{a}, []impl.Take{{Name: "a", Rate: 3, Values: numbersOf(0x3f800000, minusZeroBits, 0xffc12345)}}}, {list(9, a), list(9, a)}, {wrongTakes(), wrongTakes()},
	} {
		if !impl.SameTakes(c.a, c.b) || !impl.SameTakes(c.b, c.a) {
			t.Error("SameTakes is false for ", c.a, c.b)
		}
	}
	b := impl.Take{Name: "b", Rate: 3, Values: a.Values}
	for _, other := range []impl.Take{{}, b, {Name: "a", Rate: 4, Values: a.Values}, {Name: "a", Rate: -3, Values: a.Values}, {Name: "A", Rate: 3, Values: a.Values}, {Name: "aa", Rate: 3, Values: a.Values}, {Name: "a", Rate: 3}, {Name: "a", Rate: 3, Values: a.Values[:2]}, {Name: "a", Rate: 3, Values: []float32{1, minus, odd, 0}}, {Name: "a", Rate: 3, Values: []float32{1, 0, odd}}, {Name: "a", Rate: 3, Values: []float32{1, minus, 0}}, {Name: "a", Rate: 3, Values: []float32{minus, 1, odd}}} {
		for _, c := range []struct{ a, b []impl.Take }{
			{[]impl.Take{a}, []impl.Take{other}}, {[]impl.Take{b, a}, []impl.Take{b, other}}, {[]impl.Take{a, b}, []impl.Take{other, b}},
		} {
			if impl.SameTakes(c.a, c.b) || impl.SameTakes(c.b, c.a) {
				t.Error("SameTakes is true for ", c.a, c.b)
			}
		}
	}
	for _, c := range []struct{ a, b []impl.Take }{
		{nil, []impl.Take{a}}, {nil, []impl.Take{{}}}, {[]impl.Take{a}, []impl.Take{a, a}}, {[]impl.Take{a, b}, []impl.Take{b, a}}, {list(9, a), list(8, a)},
	} {
		if impl.SameTakes(c.a, c.b) || impl.SameTakes(c.b, c.a) {
			t.Error("SameTakes is true for ", c.a, c.b)
		}
	}
}

func TestPromise8PackedValuesByHand(t *testing.T) {
	for _, c := range []struct {
		x    []float32
		want string
	}{
		{[]float32{0, 0, 1}, "\x04\x04\x00\x00\x00\x80\x3f"}, {[]float32{0}, "\x04"}, {numbersOf(1), "\x03\x01"}, {numbersOf(0xff), "\x03\xff"}, {numbersOf(0x100), "\x02\x00\x01"}, {numbersOf(0xffff), "\x02\xff\xff"}, {numbersOf(0x10000), "\x01\x00\x00\x01"}, {numbersOf(0xffffff), "\x01\xff\xff\xff"}, {numbersOf(0x1000000), "\x00\x00\x00\x00\x01"}, {numbersOf(minusZeroBits), "\x00\x00\x00\x00\x80"}, {numbersOf(infinityBits, 0xff800000), "\x00\x00\x00\x80\x7f\x00\x00\x00\x00\x80"},
		{numbersOf(notANumberBits), "\x00\x00\x00\xc0\x7f"}, {numbersOf(0x7f800001), "\x00\x00\x00\xc0\x7f"}, {numbersOf(0xffffffff, 0x7f800001), "\x00\x00\x00\xc0\x7f\x04"}, {numbersOf(notANumberBits, 0x7fc00001, 0), "\x00\x00\x00\xc0\x7f\x04\x00\x00\x00\xc0\x7f"}, {[]float32{1, 1, 1}, "\x00\x00\x00\x80\x3f\x04\x04"}, {numbersOf(0x3f800000, 0x3f800001), "\x00\x00\x00\x80\x3f\x03\x01"}, {numbersOf(0x12345678, 0x12005678), "\x00\x78\x56\x34\x12\x01\x00\x00\x34"}, {list(128, float32(0)), strings.Repeat("\x04", 128)},
	} {
		what := fmt.Sprint("PackTake of ", seen(c.x))
		packed, ok := impl.PackTake(c.x)
		if !ok || packed != c.want {
			t.Errorf("%s: %q, %v, want %q", what, packed, ok, c.want)
		}
		x, ok := impl.UnpackTake(c.want)
		checkNumbers(t, "UnpackTake of "+what, x, ok, c.x)
	}
	for _, count := range []int{0, 129, 130, 1000, 100000} {
		packed, ok := impl.PackTake(list(count, float32(1)))
		checkNone(t, fmt.Sprint("PackTake of ", count), ok, packed)
	}
	packed, ok := impl.PackTake(nil)
	checkNone(t, "PackTake of nothing", ok, packed)
}

func TestPromise8BytesThatPackNothing(t *testing.T) {
	for _, s := range []string{
		"", "\x00", "\x01", "\x02", "\x03", "\x05", "\x06", "\xff", "\x80", "\x04\x05", "\x05\x00\x00\x00\x00", "\xff\x00", "\x00\x01", "\x00\x01\x02", "\x00\x01\x02\x03", "\x04\x00\x01\x02\x03", "\x01\x02\x03", "\x02\x03", "\x04\x03", "\x04\x01\x02", "\x04\x04\x02\x01", // too few, or numbers that there are not
		"\x03\x00", "\x02\x00\x00", "\x02\x01\x00", "\x01\x00\x00\x00", "\x01\x01\x01\x00", "\x00\x00\x00\x00\x00", "\x00\x01\x00\x00\x00", "\x00\x01\x01\x01\x00", "\x04\x03\x00", "\x03\x01\x03\x00", // zeros that are told
		"\x00\x01\x00\x80\x7f", "\x00\xff\xff\xff\xff", "\x00\x00\x00\xc0\xff", "\x00\x01\x00\xc0\x7f", "\x00\x00\x00\xc0\x7f\x03\x01", "\x00\x00\x00\xc0\x7f\x00\x00\x00\x00\x80", "\x00\x00\x00\x80\x7f\x03\x01", "\x04\x00\x01\x00\x80\x7f", // other not-a-numbers
		strings.Repeat("\x04", 129), strings.Repeat("\x04", 100000), strings.Repeat("\x04", 128) + "\x05", strings.Repeat("\x04", 128) + "\x03", strings.Repeat("\x00\x01\x02\x03\x04", 129), "TAK1", "4",
	} {
		x, ok := impl.UnpackTake(s)
		checkNone(t, fmt.Sprintf("UnpackTake of %.30q", s), ok, x)
	}
}

func TestPromise8PackedValues(t *testing.T) {
	r := rand.New(rand.NewPCG(31, 7))
	for range 20 {
		for n := 1; n <= 128; n++ {
			for _, x := range append(roughLists(r, n), anyValues(r, n), anyValues(r, n)) {
				packed, ok := impl.PackTake(x)
				if want := toldPack(x); !ok || packed != want {
					t.Errorf("PackTake of %v: %q, %v, want %q", x, packed, ok, want)
				}
				back, ok := impl.UnpackTake(packed)
				checkNumbers(t, "UnpackTake of PackTake", back, ok, x)
			}
		}
	}
}

// Any bytes tell numbers only if these have the same bytes again.
func TestPromise8AnyPackedBytes(t *testing.T) {
	r := rand.New(rand.NewPCG(32, 7))
	found := 0
	for range 30000 {
		bytes := make([]byte, r.IntN(12))
		for i := range bytes {
			if bytes[i] = byte(r.IntN(6)); r.IntN(4) == 0 {
				bytes[i] = byte(r.Uint32())
			}
		}
		x, ok := impl.UnpackTake(string(bytes))
		if !ok {
			checkNone(t, fmt.Sprintf("UnpackTake of %q", bytes), ok, x)
			continue
		}
		found++
		if len(x) == 0 || toldPack(x) != string(bytes) {
			t.Errorf("UnpackTake of %q: %v", bytes, x)
		}
	}
	if found < 1000 {
		t.Error("only ", found, " texts of bytes tell numbers")
	}
}

func checkLoaded(t *testing.T, what string, got impl.Take, ok bool, want impl.Take) {
	t.Helper()
	if !ok || takesSeen(got) != takesSeen(want) {
		t.Errorf("%s: got %s, %v, want %s", what, takesSeen(got), ok, takesSeen(want))
	}
}

func checkNotLoaded(t *testing.T, what, s string) {
	t.Helper()
	take, ok := impl.LoadTake(s)
	if ok || takesSeen(take) != takesSeen(impl.Take{}) {
		t.Errorf("%s: LoadTake of %q: %s, %v", what, s, takesSeen(take), ok)
	}
}

func TestPromise8StoredTakesByHand(t *testing.T) {
	for _, c := range []struct {
		take  impl.Take
		bytes string
	}{
		{impl.Take{Name: "a", Rate: 300, Values: []float32{0, 0}}, "TAK1\x01a\x2c\x01\x02\x00\x04\x04"}, {impl.Take{Name: "a", Rate: 1, Values: []float32{1}}, "TAK1\x01a\x01\x00\x05\x00\x00\x00\x00\x80\x3f"}, {impl.Take{Name: "abcdefgh", Rate: 65535, Values: numbersOf(1)}, "TAK1\x08abcdefgh\xff\xff\x02\x00\x03\x01"}, {impl.Take{Name: "zz", Rate: 256, Values: numbersOf(notANumberBits)}, "TAK1\x02zz\x00\x01\x05\x00\x00\x00\x00\xc0\x7f"},
		{impl.Take{Name: "long", Rate: 1, Values: takesAtLimits()[1].Values}, "TAK1\x04long\x01\x00" + "\x80\x02" + toldPack(takesAtLimits()[1].Values)},
	} {
		check := toldCheck([]byte(c.bytes))
		want := c.bytes + string([]byte{byte(check), byte(check >> 8)})
		stored, ok := impl.StoreTake(c.take)
		if !ok || stored != want {
			t.Errorf("StoreTake of %v: %q, %v, want %q", c.take, stored, ok, want)
		}
		take, ok := impl.LoadTake(want)
		checkLoaded(t, "LoadTake of StoreTake", take, ok, c.take)
	}
	if check := toldCheck([]byte("TAK1\x01a\x2c\x01\x02\x00\x04\x04")); check != 39372 {
		t.Error("the check number of a stored take is ", check)
	}
}

func TestPromise8TakesAreLoadedAsTheyWereStored(t *testing.T) {
	r := rand.New(rand.NewPCG(33, 7))
	for n := 1; n <= 128; n++ {
		for range 10 {
			take := anyTake(r, n)
			stored, ok := impl.StoreTake(take)
			if !ok || stored != toldTake(take) {
				t.Errorf("StoreTake of %v: %q, %v", take, stored, ok)
			}
			back, ok := impl.LoadTake(stored)
			checkLoaded(t, "LoadTake of StoreTake", back, ok, take)
			if !impl.SameTakes([]impl.Take{take}, []impl.Take{back}) {
				t.Error("SameTakes is false for a take that is loaded: ", take, back)
			}
			checkNotLoaded(t, "one byte more", stored+"\x00")
			checkNotLoaded(t, "two takes", stored+stored)
			checkNotLoaded(t, "one byte before", "T"+stored)
		}
	}
}

// Texts that are cut at any byte, or have one byte changed, are not loaded; and
// takes before and behind are recovered as far as those before are whole.
func TestPromise8TakesThatAreNotWhole(t *testing.T) {
	r := rand.New(rand.NewPCG(34, 7))
	for _, take := range append(takesAtLimits(), anyTake(r, 1), anyTake(r, 5), anyTake(r, 60)) {
		stored := toldTake(take)
		for at := range stored {
			checkNotLoaded(t, "a cut text", stored[:at])
			checkNotLoaded(t, "the rest of a text", stored[at+1:])
			for _, flip := range []byte{1, 2, 4, 8, 16, 32, 64, 128, byte(1 + r.IntN(255))} {
				changed := []byte(stored)
				changed[at] ^= flip
				checkNotLoaded(t, "a changed text", string(changed))
				checkRecovered(t, stored+string(changed)+stored, []impl.Take{take}, len(stored))
			}
		}
	}
}

// A take whose check number is right is not loaded if it is not valid, or told by
// other bytes than StoreTake tells it by.
func TestPromise8TakesWithRightCheckNumbers(t *testing.T) {
	good := toldStored("a", 1, "\x04")
	take, ok := impl.LoadTake(good)
	checkLoaded(t, "LoadTake of a told take", take, ok, impl.Take{Name: "a", Rate: 1, Values: []float32{0}})
	for _, s := range []string{
		toldStored("", 1, "\x04"), toldStored("A", 1, "\x04"), toldStored("abcdefghi", 1, "\x04"), toldStored(strings.Repeat("a", 255), 1, "\x04"), toldStored("a", 0, "\x04"), toldStored("a", 1, ""), toldStored("a", 1, "\x05"), toldStored("a", 1, "\x03"), toldStored("a", 1, "\x03\x00"), toldStored("a", 1, "\x00\x01\x00\x80\x7f"), toldStored("a", 1, strings.Repeat("\x04", 129)), toldStored("a", 1, strings.Repeat("\x04", 65535)), toldStored("a", 1, "\x04\x02\x01"), toldStored("a", 1, "\xff"),
	} {
		checkNotLoaded(t, "no valid take", s)
		checkRecovered(t, s, nil, 0)
		checkRecovered(t, good+s+good, []impl.Take{take}, len(good))
	}
	for _, mark := range []string{"TAK2", "tAK1", "TAKE", "\x00AK1"} {
		s := mark + good[4:len(good)-2]
		check := toldCheck([]byte(s))
		checkNotLoaded(t, "another mark", s+string([]byte{byte(check), byte(check >> 8)}))
	}
	checkNotLoaded(t, "no bytes", "")
	checkNotLoaded(t, "the mark alone", "TAK1")
	for _, s := range oddTexts() {
		checkNotLoaded(t, "any text", s)
	}
}

func checkRecovered(t *testing.T, s string, want []impl.Take, wantCount int) {
	t.Helper()
	takes, count, ok := impl.RecoverTakes(s)
	if !ok || count != int64(wantCount) || len(takes) != len(want) || takesSeen(takes...) != takesSeen(want...) {
		t.Errorf("RecoverTakes of %.60q: %s, %d, %v, want %s, %d", s, takesSeen(takes...), count, ok, takesSeen(want...), wantCount)
	}
}

func TestPromise8TakesAreRecovered(t *testing.T) {
	r := rand.New(rand.NewPCG(35, 7))
	for count := range 9 {
		for range 5 {
			all := []impl.Take{}
			for range count {
				all = append(all, anyTake(r, 1+r.IntN(20)))
			}
			stored, ok := impl.StoreTakes(all)
			if !ok || stored != toldTakes(all) {
				t.Errorf("StoreTakes of %v: %q, %v", all, stored, ok)
			}
			checkRecovered(t, stored, all, len(stored))
			for at := range stored {
				whole := 0
				for len(toldTakes(all[:whole+1])) <= at {
					whole++
				}
				checkRecovered(t, stored[:at], all[:whole], len(toldTakes(all[:whole])))
			}
			for _, rest := range []string{"\x00", "T", "TAK1", stored + "\x00"} {
				more := min(len(all)*2, 8)
				if rest != stored+"\x00" {
					more = count
				}
				twice := slices.Concat(all, all)[:more]
				checkRecovered(t, stored+rest, twice, len(toldTakes(twice)))
			}
		}
	}
	for _, count := range []int{9, 10, 100} {
		all := list(count, anyTake(r, 3))
		stored, ok := impl.StoreTakes(all)
		checkNone(t, fmt.Sprint("StoreTakes of ", count), ok, stored)
		checkRecovered(t, toldTakes(all), all[:8], len(toldTakes(all[:8])))
	}
	for _, s := range append(oddTexts(), "") {
		checkRecovered(t, s, nil, 0)
	}
	stored, ok := impl.StoreTakes(nil)
	if !ok || stored != "" {
		t.Errorf("StoreTakes of none: %q, %v", stored, ok)
	}
}

// A byte that is changed in one of some takes leaves those before it.
func TestPromise8ChangedTakesAreRecovered(t *testing.T) {
	r := rand.New(rand.NewPCG(36, 7))
	all := []impl.Take{anyTake(r, 3), anyTake(r, 1), anyTake(r, 9), anyTake(r, 2)}
	stored := []byte(toldTakes(all))
	for at := range stored {
		whole := 0
		for len(toldTakes(all[:whole+1])) <= at {
			whole++
		}
		for flip := 1; flip < 256; flip++ {
			stored[at] ^= byte(flip)
			checkRecovered(t, string(stored), all[:whole], len(toldTakes(all[:whole])))
			stored[at] ^= byte(flip)
		}
	}
}
