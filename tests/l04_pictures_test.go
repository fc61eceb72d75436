package tests

import (
	"fmt"
	"math"
	"math/rand/v2"
	"testing"

	"loop.example/g01317/impl"
)

// wrongSides are sides that no picture has.
func wrongSides() []int64 {
	return []int64{0, -1, -16, 17, 18, 1 << 32, -1 << 32, 1 << 62, math.MaxInt64, math.MinInt64}
}

// wrongPictures are pictures that are not valid.
func wrongPictures() []impl.Picture {
	all := []impl.Picture{
		{}, pictureOf(1, 1), pictureOf(1, 1, 2, 3), pictureOf(2, 2, 1, 2, 3), pictureOf(2, 2, 1, 2, 3, 4, 5), pictureOf(0, 1), pictureOf(1, 0), pictureOf(-1, -1, 1), pictureOf(-2, -2, 1, 2, 3, 4),
		pictureOf(17, 1, list(17, float32(1))...), pictureOf(1, 17, list(17, float32(1))...), pictureOf(17, 17, list(289, float32(1))...), pictureOf(16, 16, list(255, float32(1))...), pictureOf(16, 16, list(257, float32(1))...),
		pictureOf(32, 8, list(256, float32(1))...), pictureOf(1<<32, 1<<32), pictureOf(1<<62, 4), pictureOf(3, -6148914691236517205, 1), pictureOf(0, 0, 1), pictureOf(0, 5, 1),
	}
	for _, wrong := range wrongNumbers() {
		all = append(all, pictureOf(1, 1, wrong), pictureOf(2, 2, wrong, 1, 1, 1), pictureOf(2, 2, 1, 1, 1, wrong), pictureOf(1, 3, 1, wrong, 1), pictureOf(16, 16, append(list(255, float32(1)), wrong)...))
	}
	return all
}

func TestPromise5ValidPictures(t *testing.T) {
	r := rand.New(rand.NewPCG(1, 4))
	eachSize(func(wide, high int64) {
		for _, make := range []func(*rand.Rand, int) []float32{middleNumbers, anyNumbers} {
			if p := anyPicture(r, wide, high, make); !impl.ValidPicture(p) {
				t.Error("ValidPicture is false for ", p)
			}
		}
	})
	for _, x := range numbersOf(0, minusZeroBits, 1, 0x80000001, 0x7f7fffff, 0xff7fffff) {
		for _, p := range []impl.Picture{pictureOf(1, 1, x), pictureOf(16, 16, list(256, x)...)} {
			if !impl.ValidPicture(p) {
				t.Error("ValidPicture is false for ", p)
			}
		}
	}
	for _, p := range wrongPictures() {
		if impl.ValidPicture(p) {
			t.Error("ValidPicture is true for ", p)
		}
	}
}

func TestPromise5SamePictures(t *testing.T) {
	minus, nan, other := number(minusZeroBits), number(notANumberBits), number(0xffc12345)
	for _, c := range [][2]impl.Picture{
		{{}, {Lights: []float32{}}}, {pictureOf(2, 1, 1, 2), pictureOf(2, 1, 1, 2)}, {pictureOf(2, 1, nan, minus), pictureOf(2, 1, other, minus)}, {pictureOf(-3, 1<<40, 7), pictureOf(-3, 1<<40, 7)},
		{pictureOf(16, 16, numbersBehind(300)...), pictureOf(16, 16, numbersBehind(300)...)}, {pictureOf(1, 1, number(infinityBits)), pictureOf(1, 1, number(infinityBits))},
	} {
		if !impl.SamePicture(c[0], c[1]) || !impl.SamePicture(c[1], c[0]) {
			t.Error("SamePicture is false for ", c)
		}
	}
	for _, c := range [][2]impl.Picture{
		{{}, pictureOf(0, 0, 1)}, {{}, pictureOf(1, 0)}, {{}, pictureOf(0, 1)}, {pictureOf(2, 1, 1, 2), pictureOf(1, 2, 1, 2)}, {pictureOf(2, 1, 1, 2), pictureOf(2, 2, 1, 2)}, {pictureOf(2, 1, 1, 2), pictureOf(3, 1, 1, 2)},
		{pictureOf(2, 1, 1, 2), pictureOf(2, 1, 1, 3)}, {pictureOf(2, 1, 1, 2), pictureOf(2, 1, 0, 2)}, {pictureOf(1, 1, 0), pictureOf(1, 1, minus)}, {pictureOf(1, 1, nan), pictureOf(1, 1, 1)}, {pictureOf(2, 1, 1, 2), pictureOf(2, 1, 1)},
		{pictureOf(2, 1, 1, 2), pictureOf(2, 1, 2, 1)}, {pictureOf(4, 1, 1, 2, 3, 4), pictureOf(2, 2, 1, 2, 3, 4)},
	} {
		if impl.SamePicture(c[0], c[1]) || impl.SamePicture(c[1], c[0]) {
			t.Error("SamePicture is true for ", c)
		}
	}
}

func TestPromise5PlainAndStepPictures(t *testing.T) {
	minus, most := number(minusZeroBits), number(0x7f7fffff)
	eachSize(func(wide, high int64) {
		for _, light := range []float32{0, minus, 1.5, -most} {
			p, ok := impl.PlainPicture(wide, high, light)
			checkPicture(t, "PlainPicture", p, ok, pictureOf(wide, high, list(int(wide*high), light)...))
		}
		for at := int64(0); at <= 16; at++ {
			want := pictureOf(wide, high)
			for range high {
				for x := range wide {
					want.Lights = append(want.Lights, map[bool]float32{true: minus, false: 7}[x < at])
				}
			}
			p, ok := impl.StepPicture(wide, high, at, minus, 7)
			checkPicture(t, fmt.Sprint("StepPicture at ", at), p, ok, want)
		}
	})
	for _, side := range wrongSides() {
		for _, c := range [][2]int64{{side, 1}, {1, side}, {side, side}, {16, side}, {side, 16}} {
			p, ok := impl.PlainPicture(c[0], c[1], 1)
			checkNoPicture(t, fmt.Sprint("PlainPicture of the sides ", c), p, ok)
			p, ok = impl.StepPicture(c[0], c[1], 1, 1, 2)
			checkNoPicture(t, fmt.Sprint("StepPicture of the sides ", c), p, ok)
		}
	}
	for _, at := range []int64{-1, 17, 1 << 32, math.MaxInt64, math.MinInt64} {
		p, ok := impl.StepPicture(16, 16, at, 1, 2)
		checkNoPicture(t, fmt.Sprint("StepPicture at ", at), p, ok)
	}
	for _, wrong := range wrongNumbers() {
		p, ok := impl.PlainPicture(1, 1, wrong)
		checkNoPicture(t, fmt.Sprint("PlainPicture of ", wrong), p, ok)
		for _, at := range []int64{0, 1, 2, 16} { // lights that no pixel has must be finite too
			p, ok = impl.StepPicture(2, 2, at, wrong, 1)
			checkNoPicture(t, fmt.Sprint("StepPicture with left ", wrong), p, ok)
			p, ok = impl.StepPicture(2, 2, at, 1, wrong)
			checkNoPicture(t, fmt.Sprint("StepPicture with right ", wrong), p, ok)
		}
	}
}

// indexPicture has its indices as lights.
func indexPicture(wide, high int64) impl.Picture {
	p := pictureOf(wide, high)
	for i := range wide * high {
		p.Lights = append(p.Lights, float32(i))
	}
	return p
}

// toldPart picks the pixels of a part out of all pixels.
func toldPart(p impl.Picture, x, y, wide, high int64) impl.Picture {
	part := pictureOf(wide, high)
	for i, light := range p.Lights {
		across, down := int64(i)%p.Wide, int64(i)/p.Wide
		if across >= x && across < x+wide && down >= y && down < y+high {
			part.Lights = append(part.Lights, light)
		}
	}
	return part
}

func TestPromise5Parts(t *testing.T) {
	for _, size := range [][2]int64{{1, 1}, {1, 4}, {5, 1}, {5, 3}, {3, 4}, {16, 2}, {6, 16}} {
		p := indexPicture(size[0], size[1])
		for x := int64(-1); x <= p.Wide; x++ {
			for y := int64(-1); y <= p.High; y++ {
				for wide := int64(-1); wide <= p.Wide+1; wide++ {
					for high := int64(-1); high <= p.High+1; high++ {
						checkPart(t, p, x, y, wide, high)
					}
				}
			}
		}
	}
	for _, p := range []impl.Picture{pictureOf(1, 1, number(minusZeroBits)), indexPicture(16, 16)} {
		checkPart(t, p, 0, 0, p.Wide, p.High)
		for _, n := range wrongSides() {
			if n < 0 || n > 17 {
				checkPart(t, p, n, 0, 1, 1)
				checkPart(t, p, 0, n, 1, 1)
				checkPart(t, p, 0, 0, n, 1)
				checkPart(t, p, 0, 0, 1, n)
				checkPart(t, p, n, n, -n, -n)
				checkPart(t, p, -n, 1, n, 1)
			}
		}
	}
	for _, p := range wrongPictures() {
		part, ok := impl.CropPicture(p, 0, 0, 1, 1)
		checkNoPicture(t, fmt.Sprint("CropPicture of ", p), part, ok)
		put, ok := impl.PutPicture(p, pictureOf(1, 1, 2), 0, 0)
		checkNoPicture(t, fmt.Sprint("PutPicture into ", p), put, ok)
		put, ok = impl.PutPicture(indexPicture(16, 16), p, 0, 0)
		checkNoPicture(t, fmt.Sprint("PutPicture of ", p), put, ok)
	}
}

// checkPart checks a part that is cut out, and one that is put there.
func checkPart(t *testing.T, p impl.Picture, x, y, wide, high int64) {
	t.Helper()
	what := fmt.Sprint(" of ", p.Wide, p.High, " at ", x, y, wide, high)
	got, ok := impl.CropPicture(p, x, y, wide, high)
	lies := wide >= 1 && high >= 1 && x >= 0 && y >= 0 && wide <= 16 && high <= 16 && x <= 16 && y <= 16 && x+wide <= p.Wide && y+high <= p.High
	if lies {
		checkPicture(t, "CropPicture"+what, got, ok, toldPart(p, x, y, wide, high))
	} else {
		checkNoPicture(t, "CropPicture"+what, got, ok)
	}
	if wide < 1 || high < 1 || wide > 16 || high > 16 {
		return
	}
	part := indexPicture(wide, high)
	for i := range part.Lights {
		part.Lights[i] -= 1000
	}
	put, ok := impl.PutPicture(p, part, x, y)
	if !lies {
		checkNoPicture(t, "PutPicture"+what, put, ok)
		return
	}
	checkPicture(t, "the part of PutPicture"+what, toldPart(put, x, y, wide, high), ok, part)
	for i, light := range put.Lights {
		across, down := int64(i)%p.Wide, int64(i)/p.Wide
		if inside := across >= x && across < x+wide && down >= y && down < y+high; !inside && light != p.Lights[i] {
			t.Error("PutPicture"+what, " changes the pixel ", i)
		}
	}
}

func TestPromise5SwappedSides(t *testing.T) {
	eachSize(func(wide, high int64) {
		p := anyPicture(rand.New(rand.NewPCG(2, 4)), wide, high, anyNumbers)
		want := pictureOf(high, wide)
		for _, column := range columnsOf(p) {
			want.Lights = append(want.Lights, column...)
		}
		got, ok := impl.SwapSides(p)
		checkPicture(t, "SwapSides", got, ok, want)
		back, ok := impl.SwapSides(got)
		checkPicture(t, "SwapSides of SwapSides", back, ok, p)
	})
	for _, p := range wrongPictures() {
		got, ok := impl.SwapSides(p)
		checkNoPicture(t, fmt.Sprint("SwapSides of ", p), got, ok)
	}
}

func toldBlend(a, b impl.Picture, share float32) impl.Picture {
	p := pictureOf(a.Wide, a.High)
	for i, x := range a.Lights {
		p.Lights = append(p.Lights, plus32(x, times32(share, less32(b.Lights[i], x))))
	}
	return p
}

func TestPromise5BlendedPictures(t *testing.T) {
	minus, most := number(minusZeroBits), number(0x7f7fffff)
	one, two := pictureOf(2, 2, 1, 2, 3, minus), pictureOf(2, 2, 5, 0, minus, minus)
	for _, c := range []struct {
		share float32
		want  []float32
	}{
		{0, []float32{1, 2, 3, 0}}, {minus, []float32{1, 2, 3, minus}}, {1, []float32{5, 0, 0, 0}}, {0.25, []float32{2, 1.5, 2.25, 0}}, // -0 less -0 is +0
	} {
		got, ok := impl.BlendPictures(one, two, c.share)
		checkPicture(t, fmt.Sprint("BlendPictures with ", c.share), got, ok, pictureOf(2, 2, c.want...))
	}
	got, ok := impl.BlendPictures(pictureOf(1, 1, minus), pictureOf(1, 1, 0), minus)
	checkPicture(t, "BlendPictures of -0 and +0", got, ok, pictureOf(1, 1, minus))
	// A product is rounded before it is added.
	share := float32(0x1.001p-1)
	got, ok = impl.BlendPictures(pictureOf(1, 1, -0x1.002p-1), pictureOf(1, 1, 0x1p-1), share)
	checkPicture(t, "BlendPictures whose products are rounded", got, ok, toldBlend(pictureOf(1, 1, -0x1.002p-1), pictureOf(1, 1, 0x1p-1), share))
	r := rand.New(rand.NewPCG(3, 4))
	eachSize(func(wide, high int64) {
		for _, make := range []func(*rand.Rand, int) []float32{middleNumbers, anyNumbers} {
			a, b := anyPicture(r, wide, high, make), anyPicture(r, wide, high, make)
			for _, share := range []float32{0, 1, float32(r.Float64())} {
				got, ok := impl.BlendPictures(a, b, share)
				checkToldPicture(t, fmt.Sprint("BlendPictures of ", a, b, share), got, ok, toldBlend(a, b, share))
			}
		}
	})
	check := func(a, b impl.Picture, share float32) {
		t.Helper()
		got, ok := impl.BlendPictures(a, b, share)
		checkNoPicture(t, fmt.Sprint("BlendPictures of ", a, b, share), got, ok)
	}
	for _, share := range append(wrongNumbers(), -0.5, number(0x80000001), number(0x3f800001), 2) {
		check(one, two, share)
	}
	check(pictureOf(1, 1, most), pictureOf(1, 1, -most), 0)
	check(pictureOf(1, 1, most), pictureOf(1, 1, -most), 0.5) // their difference is infinite
	check(one, pictureOf(4, 1, 1, 2, 3, 4), 0.5)
	check(one, pictureOf(1, 1, 1), 0.5)
	check(pictureOf(2, 1, 1, 2), pictureOf(1, 2, 1, 2), 0.5)
	for _, p := range wrongPictures() {
		check(p, p, 0.5)
		check(pictureOf(2, 2, 1, 2, 3, 4), p, 0)
		check(p, pictureOf(2, 2, 1, 2, 3, 4), 1)
	}
}

func TestPromise5EnergiesOfPictures(t *testing.T) {
	for _, c := range []struct {
		p    impl.Picture
		want uint32
	}{
		{pictureOf(2, 2, 1, -2, 3, 4), bitsOf(30)}, {pictureOf(1, 1, number(minusZeroBits)), 0}, {pictureOf(3, 1, 0x1p12, 1, 1), bitsOf(0x1p24)}, {pictureOf(1, 3, 1, 1, 0x1p12), bitsOf(0x1.000002p24)},
		{pictureOf(2, 1, 0x1p12, 0x1.3988e2p0), bitsOf(0x1.000002p24)}, {pictureOf(1, 1, 0x1p-75), 0}, {pictureOf(1, 1, 0x1.fffffep63), bitsOf(0x1.fffffcp127)}, {pictureOf(16, 16, list(256, float32(-0.5))...), bitsOf(64)},
	} {
		got, ok := impl.EnergyOfPicture(c.p)
		checkFound(t, fmt.Sprint("EnergyOfPicture ", c.p), got, ok, c.want, true)
	}
	for _, p := range append(wrongPictures(), pictureOf(1, 1, 0x1p64), pictureOf(2, 1, 0x1.8p63, 0x1.8p63), pictureOf(1, 1, number(0xff7fffff))) {
		got, ok := impl.EnergyOfPicture(p)
		checkFound(t, fmt.Sprint("EnergyOfPicture ", p), got, ok, 0, false)
	}
}

// toldDistance is infinite, or no number, where it is not told.
func toldDistance(a, b impl.Picture) float32 {
	differences := []float32{}
	for i, x := range a.Lights {
		differences = append(differences, less32(x, b.Lights[i]))
	}
	return float32(math.Sqrt(float64(divided32(toldPower(differences), float32(len(differences))))))
}

// toldRatio is infinite, or no number, where it is not told.
func toldRatio(a, b impl.Picture, peak float32) float32 {
	distance := toldDistance(a, b)
	quotient := divided32(peak, distance)
	if distance == 0 || quotient == 0 || !finite([]float32{distance, quotient}) {
		return number(infinityBits)
	}
	return divided32(times32(20, number(narrow(formulaLogarithm(quotient)))), number(0x40135d8e))
}

func TestPromise5Distances(t *testing.T) {
	four := pictureOf(2, 2, 1, 2, 3, 4)
	for _, c := range []struct {
		a, b impl.Picture
		want float32
	}{
		{four, four, 0}, {four, pictureOf(2, 2, 1, 3, 2, 4), 0.70710677}, {four, pictureOf(2, 2, -2, -1, 0, 1), 3}, {pictureOf(1, 1, 0), pictureOf(1, 1, number(minusZeroBits)), 0}, {pictureOf(1, 1, -3), pictureOf(1, 1, 5), 8},
		{pictureOf(2, 1, 1, 1), pictureOf(2, 1, 1, 1+0x1p-23), 0x1.6a09e6p-24}, {pictureOf(1, 1, 0x1p-80), pictureOf(1, 1, 0), 0}, // its square is too near to 0
	} {
		got, ok := impl.DistanceOf(c.a, c.b)
		checkFound(t, fmt.Sprint("DistanceOf ", c.a, c.b), got, ok, bitsOf(c.want), true)
	}
	for _, c := range []struct {
		peak, want float32
	}{{8, 0}, {80, 20}, {800, 40}, {0.8, -20}, {16, 6.0206}} {
		got, ok := impl.PeakRatio(pictureOf(1, 2, -3, 1), pictureOf(1, 2, 5, 9), c.peak)
		checkNear(t, fmt.Sprint("PeakRatio with the peak ", c.peak), []float32{got}, ok, []float32{c.want}, 0.0001)
	}
	r, told := rand.New(rand.NewPCG(4, 4)), 0
	eachSize(func(wide, high int64) {
		for _, make := range []func(*rand.Rand, int) []float32{middleNumbers, anyNumbers, lightNumbers, lightNumbers} {
			a, b, peak := anyPicture(r, wide, high, make), anyPicture(r, wide, high, make), finitePositive(r)
			got, ok := impl.DistanceOf(a, b)
			checkTold(t, fmt.Sprint("DistanceOf ", a, b), []float32{got}[:oneIf(ok)], ok, []float32{toldDistance(a, b)})
			for _, peak := range []float32{peak, float32(1 + 255*r.Float64())} {
				got, ok = impl.PeakRatio(a, b, peak)
				checkTold(t, fmt.Sprint("PeakRatio of ", a, b, peak), []float32{got}[:oneIf(ok)], ok, []float32{toldRatio(a, b, peak)})
				told += oneIf(ok)
			}
		}
	})
	if told < 1000 {
		t.Error("too few peaks have a ratio: ", told)
	}
}

func oneIf(ok bool) int {
	if ok {
		return 1
	}
	return 0
}

func TestPromise5DistancesThatAreNotTold(t *testing.T) {
	most := number(0x7f7fffff)
	one, two := pictureOf(2, 1, 1, 2), pictureOf(2, 1, 1, 4)
	check := func(a, b impl.Picture) {
		t.Helper()
		got, ok := impl.DistanceOf(a, b)
		checkFound(t, fmt.Sprint("DistanceOf ", a, b), got, ok, 0, false)
		got, ok = impl.PeakRatio(a, b, 10)
		checkFound(t, fmt.Sprint("PeakRatio of ", a, b), got, ok, 0, false)
	}
	for _, p := range wrongPictures() {
		check(p, p)
		check(one, p)
		check(p, one)
	}
	check(one, pictureOf(1, 2, 1, 2))
	check(one, pictureOf(2, 2, 1, 2, 1, 2))
	check(pictureOf(4, 1, 1, 2, 3, 4), pictureOf(2, 2, 1, 2, 3, 5))
	check(pictureOf(1, 1, most), pictureOf(1, 1, -most))
	check(pictureOf(1, 1, 0x1p64), pictureOf(1, 1, 0))
	checkRatio := func(a, b impl.Picture, peak float32, found bool) {
		t.Helper()
		got, ok := impl.PeakRatio(a, b, peak)
		if ok != found || !found && bitsOf(got) != 0 {
			t.Error("PeakRatio of ", a, b, peak, ": ", got, ok)
		}
	}
	for _, peak := range append(wrongNumbers(), 0, number(minusZeroBits), -1, number(0x80000001)) {
		checkRatio(one, two, peak, false)
	}
	checkRatio(one, two, number(1), true)
	checkRatio(one, two, most, true)
	checkRatio(one, one, 10, false)
	checkRatio(pictureOf(1, 1, 0x1p-80), pictureOf(1, 1, 0), 10, false) // the distance is +0
	checkRatio(pictureOf(1, 1, 0x1p-70), pictureOf(1, 1, 0), 0x1p70, false)
	checkRatio(pictureOf(1, 1, 0x1p-70), pictureOf(1, 1, 0), 0x1p57, true)
	checkRatio(pictureOf(1, 1, 0x1p60), pictureOf(1, 1, 0), 0x1p-110, false) // the quotient is 0
}
