package tests

import (
	"fmt"
	"math"
	"math/rand/v2"
	"strings"
	"testing"

	"loop.example/g01317/impl"
)

func TestPromise5MarksByHand(t *testing.T) {
	minus := number(minusZeroBits)
	for _, c := range []struct {
		light, size float32
		bit         string
		want        float32
	}{
		{3, 1, "0", 4}, {3, 1, "1", 3}, {2, 1, "0", 2}, {2, 1, "1", 3}, {-3, 1, "0", -2}, {-3, 1, "1", -3}, {0, 1, "0", 0}, {0, 1, "1", 1}, {minus, 1, "0", 0}, {minus, 1, "1", 1},
		{1, 1, "0", 2}, {-1, 1, "0", 0}, {-2, 1, "1", -1}, {-4, 1, "1", -3}, // what is in the middle goes up
		{0.99, 1, "0", 0}, {-1.01, 1, "0", -2}, {1.99, 1, "1", 1}, {-2.01, 1, "1", -3}, {5, 2, "0", 4}, {5, 2, "1", 6}, {7, 0.5, "1", 7.5}, {-7.1, 0.5, "1", -7.5}, {0.125, 0.25, "0", 0}, {0.25, 0.25, "0", 0.5},
		{-0x1p-30, 1, "1", 1}, {number(0x3f7fffff), 1, "0", 2}, // each operation is rounded
		{1000000, 1, "0", 1000000}, {1000000, 1, "1", 1000001}, {-1000000, 1, "0", -1000000}, {-1000000, 1, "1", -999999}, {250000, 0.25, "1", 250000.25},
		{number(1), 1, "1", 1}, {0, number(1), "1", number(1)}, {number(3), number(2), "1", number(2)}, {5, number(0x7f7fffff), "0", 0}, {5, number(0x7f7fffff), "1", number(0x7f7fffff)},
	} {
		p := pictureOf(2, 1, 7, c.light)
		got, ok := impl.MarkPicture(sortScheme(), p, c.bit, c.size)
		what := fmt.Sprint("MarkPicture of ", c.light, " with the size ", c.size, " and the bit ", c.bit)
		checkNear(t, what, got.Lights, ok && got.Wide == 2 && got.High == 1, []float32{7, c.want}, 0)
		marks, ok := impl.ReadMarks(sortScheme(), got, 1, c.size)
		if found := c.want/c.size <= 1000000; ok != found || found && marks != c.bit { // a light that is marked may be too great to be read
			t.Error("ReadMarks of ", what, ": ", marks, ok)
		}
	}
	// The bits are in the order of the pixels 2, 3, 10, 11, row by row, and others stay.
	got, ok := impl.MarkPicture(sortScheme(), pictureOf(4, 3, list(12, float32(8))...), "101", 1)
	checkPicture(t, "MarkPicture of three bits", got, ok, pictureOf(4, 3, 8, 9, 8, 8, 8, 8, 8, 8, 8, 9, 8, 8))
	got, ok = impl.MarkPicture(sortScheme(), pictureOf(3, 1, 8, 8, 8), "1", 1)
	checkPicture(t, "MarkPicture of one bit in one row", got, ok, pictureOf(3, 1, 8, 9, 8))
}

func TestPromise5MarksReadByHand(t *testing.T) {
	for _, c := range []struct {
		light, size float32
		want        string
	}{
		{0, 1, "0"}, {1, 1, "1"}, {2, 1, "0"}, {-1, 1, "1"}, {-2, 1, "0"}, {0.49, 1, "0"}, {0.5, 1, "1"}, {1.49, 1, "1"}, {1.5, 1, "0"}, {-0.5, 1, "0"}, {-0.51, 1, "1"}, {-1.5, 1, "1"}, {-1.51, 1, "0"},
		{number(minusZeroBits), 1, "0"}, {3, 2, "0"}, {2.9, 2, "1"}, {1000000, 1, "0"}, {-1000000, 1, "0"}, {999999, 1, "1"}, {-999999, 1, "1"}, {-7.5, 2.5, "1"}, {number(0x3effffff), 1, "1"}, // the sum is rounded to 1
	} {
		got, ok := impl.ReadMarks(sortScheme(), pictureOf(2, 1, 7, c.light), 1, c.size)
		if got != c.want || !ok {
			t.Error("ReadMarks of ", c.light, " with the size ", c.size, ": ", got, ok, ", want ", c.want)
		}
	}
	// The pixels of the right band are 1, 3, 9 and 11.
	for size, want := range map[float32]string{1: "1111", 2: "1010", 3: "0110", 4: "0101", 9: "0011", 16: "0011"} {
		for count := int64(1); count <= 4; count++ {
			if got, ok := impl.ReadMarks(sortScheme(), indexPicture(4, 3), count, size); got != want[:count] || !ok {
				t.Error("ReadMarks of bits ", count, " with the size ", size, ": ", got, ok, ", want ", want[:count])
			}
		}
	}
}

func anyBits(r *rand.Rand, count int) string {
	bits := ""
	for range count {
		bits += string("01"[r.IntN(2)])
	}
	return bits
}

func TestPromise5MarksAsTold(t *testing.T) {
	r := rand.New(rand.NewPCG(31, 4))
	made := 0
	eachSize(func(wide, high int64) {
		for k := range 24 {
			make := []func(*rand.Rand, int) []float32{lightNumbers, middleNumbers, anyNumbers}[k%3]
			p, s := anyPicture(r, wide, high, make), manySchemes(r)[k%4]
			size, bits := float32(0.25+4*r.Float64()), anyBits(r, 1+r.IntN(16))
			if k%3 == 2 {
				size = finitePositive(r)
			}
			what := fmt.Sprint(" of ", p, " with ", s, bits, size)
			want, found := toldMarkPicture(s, p, bits, size)
			got, ok := impl.MarkPicture(s, p, bits, size)
			if found {
				made++
				checkPicture(t, "MarkPicture"+what, got, ok, want)
			} else {
				checkNoPicture(t, "MarkPicture"+what, got, ok)
			}
			text, found := toldReadMarks(s, p, int64(len(bits)), size)
			marks, ok := impl.ReadMarks(s, p, int64(len(bits)), size)
			if marks != text || ok != found {
				t.Error("ReadMarks"+what, ": ", marks, ok, ", want ", text, found)
			}
		}
	})
	if made < 2000 {
		t.Error("too few pictures are marked: ", made)
	}
}

func TestPromise5MarksThatAreMadeAreRead(t *testing.T) {
	r := rand.New(rand.NewPCG(32, 4))
	eachSize(func(wide, high int64) {
		p := anyPicture(r, wide, high, lightNumbers)
		most := int(min(16, wide/2*((high+1)/2)))
		for count := 1; count <= most; count++ {
			for _, s := range []impl.Scheme{impl.LinesScheme(), impl.NineScheme()} {
				for _, size := range []float32{0.125, 1, 7.5} {
					bits := anyBits(r, count)
					marked, ok := impl.MarkPicture(s, p, bits, size)
					if !ok || !impl.ValidPicture(marked) || marked.Wide != wide || marked.High != high {
						t.Error("MarkPicture of ", p, bits, size, ": ", marked, ok)
					}
					for some := 1; some <= count; some++ {
						marks, ok := impl.ReadMarks(s, marked, int64(some), size)
						if marks != bits[:some] || !ok {
							t.Error("ReadMarks of ", marked, some, size, ": ", marks, ok, ", want ", bits[:some])
						}
					}
				}
			}
		}
	})
}

func TestPromise5MarksThatAreNotMade(t *testing.T) {
	most := number(0x7f7fffff)
	check := func(s impl.Scheme, p impl.Picture, bits string, size float32) {
		t.Helper()
		got, ok := impl.MarkPicture(s, p, bits, size)
		checkNoPicture(t, fmt.Sprintf("MarkPicture of %v with %q and %v", p, bits, size), got, ok)
	}
	for _, bits := range []string{
		"", "2", "x", " ", "0 ", " 1", "0,1", "none", "\x00", "\x01", "1\n", "é", "१", "\xff", "0\x801", "01201", "/", ":", strings.Repeat("1", 17), strings.Repeat("0", 100000), "١٠",
	} {
		check(impl.LinesScheme(), indexPicture(16, 16), bits, 1)
	}
	for _, size := range append(wrongNumbers(), 0, number(minusZeroBits), -1, number(0x80000001), -most) {
		check(impl.LinesScheme(), pictureOf(2, 1, 0, 0), "1", size)
		if marks, ok := impl.ReadMarks(impl.LinesScheme(), pictureOf(2, 1, 0, 0), 1, size); ok || marks != "" {
			t.Error("ReadMarks with the size ", size, ": ", marks, ok)
		}
	}
	for _, count := range []int64{0, -1, 17, 18, 64, 1 << 32, math.MinInt64, math.MaxInt64} {
		if marks, ok := impl.ReadMarks(impl.LinesScheme(), indexPicture(16, 16), count, 1); ok || marks != "" {
			t.Error("ReadMarks of bits ", count, ": ", marks, ok)
		}
	}
	eachSize(func(wide, high int64) { // one bit more than there are pixels
		p, pixels := indexPicture(wide, high), wide/2*((high+1)/2)
		for count := pixels + 1; count <= 16; count++ {
			check(impl.LinesScheme(), p, strings.Repeat("1", int(count)), 1)
			if marks, ok := impl.ReadMarks(impl.LinesScheme(), p, count, 1); ok || marks != "" {
				t.Error("ReadMarks of ", p, count, ": ", marks, ok)
			}
		}
	})
	for _, c := range []struct{ light, size float32 }{
		{1000000.0625, 1}, {-1000000.0625, 1}, {2000000, 1}, {1500000, 1}, {0x1.e84802p19, 1}, {most, 0.5}, {1, number(1)}, {-most, 1}, {250000.03, 0.25},
	} {
		p := pictureOf(2, 1, 7, c.light)
		for _, bit := range []string{"0", "1"} {
			check(sortScheme(), p, bit, c.size)
		}
		if marks, ok := impl.ReadMarks(sortScheme(), p, 1, c.size); ok || marks != "" {
			t.Error("ReadMarks of ", c, ": ", marks, ok)
		}
	}
	// Quotients of pixels that hide no bit may be as great as they like.
	p := pictureOf(4, 1, 0, 3, 0, 3000000)
	got, ok := impl.MarkPicture(sortScheme(), p, "0", 1)
	checkNear(t, "MarkPicture beside a great light", got.Lights, ok, []float32{0, 4, 0, 3000000}, 0)
	if marks, ok := impl.ReadMarks(sortScheme(), p, 1, 1); marks != "1" || !ok {
		t.Error("ReadMarks beside a great light: ", marks, ok)
	}
	check(sortScheme(), p, "00", 1)
	if marks, ok := impl.ReadMarks(sortScheme(), p, 2, 1); marks != "" || ok {
		t.Error("ReadMarks of a great light: ", marks, ok)
	}
	check(sortScheme(), pictureOf(2, 1, 0, 3e38), "0", 2e38) // two sizes are infinite
}
