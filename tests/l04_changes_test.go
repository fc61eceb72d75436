package tests

import (
	"fmt"
	"math"
	"math/rand/v2"
	"testing"

	"loop.example/g01317/impl"
)

func TestPromise5QuietPictures(t *testing.T) {
	minus, most := number(minusZeroBits), number(0x7f7fffff)
	for _, c := range []struct {
		levels int64
		limit  float32
		p      impl.Picture
		want   []float32
		count  int64
	}{
		{1, 1, pictureOf(4, 1, -1, 3.5, -2, 0), []float32{-1, 3.5, -2, 0}, 1},
		{1, 2, pictureOf(4, 1, -1, 3.5, -2, 0), []float32{-1, 3.5, 0, 0}, 2}, // the limit is reached exactly
		{2, 2, pictureOf(4, 1, -1, 3.5, -2, 0), []float32{-1, 3.5, 0, 0}, 2},
		{2, 3.5, pictureOf(4, 1, -1, 3.5, -2, 0), []float32{-1, 0, 0, 0}, 3},
		{1, 0, pictureOf(2, 2, minus, minus, 0, number(0x80000001)), []float32{minus, 0, 0, number(0x80000001)}, 2}, // zeros that are coarse stay, and are not counted
		{1, minus, pictureOf(2, 2, 0, minus, 1, -1), []float32{0, 0, 1, -1}, 1},
		{1, 1, pictureOf(1, 4, 0.5, 0.5, number(0x3f800001), number(0x3f7fffff)), []float32{0.5, 0.5, number(0x3f800001), 0}, 1},
		{3, most, pictureOf(2, 2, most, most, -most, most), []float32{most, 0, 0, 0}, 3},
		{4, most, pictureOf(1, 1, minus), []float32{minus}, 0}, // all are coarse
		{4, 0, pictureOf(1, 1, 0), []float32{0}, 0},
	} {
		got, count, ok := impl.QuietPicture(c.p, c.levels, c.limit)
		checkPicture(t, fmt.Sprint("QuietPicture of ", c.p, c.levels, c.limit), got, ok, pictureOf(c.p.Wide, c.p.High, c.want...))
		if count != c.count {
			t.Error("QuietPicture of ", c.p, c.levels, c.limit, " counts ", count, ", want ", c.count)
		}
	}
	for _, limit := range append(wrongNumbers(), -1, number(0x80000001), -most) {
		got, count, ok := impl.QuietPicture(pictureOf(2, 1, 1, 2), 1, limit)
		checkNoPicture(t, fmt.Sprint("QuietPicture with limit ", limit), got, ok)
		soft, ok := impl.SoftPicture(pictureOf(2, 1, 1, 2), 1, limit)
		checkNoPicture(t, fmt.Sprint("SoftPicture by ", limit), soft, ok)
		if count != 0 {
			t.Error("QuietPicture with limit ", limit, " counts ", count)
		}
	}
}

func TestPromise5SoftPictures(t *testing.T) {
	minus, most := number(minusZeroBits), number(0x7f7fffff)
	for _, c := range []struct {
		levels int64
		by     float32
		p      impl.Picture
		want   []float32
	}{
		{1, 0.5, pictureOf(4, 1, -1, 3.5, -2, 0), []float32{-1, 3.5, -1.5, 0}},
		{2, 2, pictureOf(4, 1, -1, 3.5, -2, 0), []float32{-1, 1.5, 0, 0}}, // by is reached exactly
		{2, 3.5, pictureOf(4, 1, -1, 3.5, -2, 4), []float32{-1, 0, 0, 0.5}},
		{1, 0, pictureOf(2, 2, minus, minus, 0, number(0x80000001)), []float32{minus, 0, 0, number(0x80000001)}},
		{1, minus, pictureOf(2, 2, minus, minus, -3, 3), []float32{minus, 0, -3, 3}},
		{1, 1, pictureOf(1, 4, 9, 9, number(0x3f800001), number(0xbf800001)), []float32{9, 9, 0x1p-23, -0x1p-23}},
		{1, 0x1p-1, pictureOf(1, 2, 9, 0x1.000002p24), []float32{9, 0x1.000002p24}}, // the difference is rounded
		{3, most, pictureOf(2, 2, most, most, -most, 1), []float32{most, 0, 0, 0}},
		{4, most, pictureOf(1, 1, minus), []float32{minus}},
	} {
		got, ok := impl.SoftPicture(c.p, c.levels, c.by)
		checkPicture(t, fmt.Sprint("SoftPicture of ", c.p, c.levels, c.by), got, ok, pictureOf(c.p.Wide, c.p.High, c.want...))
	}
}

func TestPromise5RoughestPlaces(t *testing.T) {
	minus, most := number(minusZeroBits), number(0x7f7fffff)
	for _, c := range []struct {
		levels int64
		p      impl.Picture
		x, y   int64
		rough  float32
	}{
		{1, pictureOf(4, 1, -1, 3.5, -2, 0), 2, 0, 2}, {2, pictureOf(4, 1, -1, 3.5, -2, 0), 1, 0, 3.5}, {4, pictureOf(4, 1, -9, 3.5, -3.5, 3.5), 1, 0, 3.5},
		{1, pictureOf(2, 2, 9, minus, minus, 0), 1, 0, 0}, {1, pictureOf(1, 2, 9, minus), 0, 1, 0}, {1, pictureOf(2, 2, 9, 1, -1, 1), 1, 0, 1}, {1, pictureOf(2, 2, 9, 1, -2, 2), 0, 1, 2}, {1, pictureOf(2, 2, 9, 1, 2, -most), 1, 1, most},
		{1, pictureOf(3, 3, 9, 9, 0, 9, 9, 0, 0, 1, 0), 1, 2, 1}, {2, pictureOf(3, 3, 9, 8, 0, 8, 8, 0, 0, 1, 0), 1, 0, 8}, {1, pictureOf(3, 1, -9, 9, 1), 2, 0, 1},
	} {
		x, y, rough, ok := impl.RoughestPlace(c.p, c.levels)
		if x != c.x || y != c.y || !ok {
			t.Error("RoughestPlace of ", c.p, c.levels, ": ", x, y, rough, ok, ", want ", c.x, c.y)
		}
		checkNumber(t, fmt.Sprint("what is rough of ", c.p, c.levels), rough, bitsOf(c.rough))
	}
	check := func(p impl.Picture, levels int64) {
		t.Helper()
		x, y, rough, ok := impl.RoughestPlace(p, levels)
		if x != 0 || y != 0 || bitsOf(rough) != 0 || ok {
			t.Error("RoughestPlace of ", p, levels, ": ", x, y, rough, ok)
		}
	}
	for levels := int64(1); levels <= 4; levels++ {
		check(pictureOf(1, 1, 5), levels) // all is coarse
	}
	for _, p := range wrongPictures() {
		check(p, 1)
		got, count, ok := impl.QuietPicture(p, 1, 1)
		checkNoPicture(t, fmt.Sprint("QuietPicture of ", p), got, ok || count != 0)
		got, ok = impl.SoftPicture(p, 1, 1)
		checkNoPicture(t, fmt.Sprint("SoftPicture of ", p), got, ok)
	}
	for _, levels := range wrongLevels() {
		check(indexPicture(16, 16), levels)
		got, count, ok := impl.QuietPicture(indexPicture(16, 16), levels, 1)
		checkNoPicture(t, fmt.Sprint("QuietPicture with levels ", levels), got, ok || count != 0)
		got, ok = impl.SoftPicture(indexPicture(16, 16), levels, 1)
		checkNoPicture(t, fmt.Sprint("SoftPicture with levels ", levels), got, ok)
	}
}

func toldQuiet(p impl.Picture, levels int64, limit float32) (impl.Picture, int64) {
	count := int64(0)
	quiet := changedPicture(p, levels, func(_ int, x float32, coarse bool) float32 {
		if !coarse && -limit <= x && x <= limit {
			x = 0
		}
		if !coarse && x == 0 {
			count++
		}
		return x
	})
	return quiet, count
}

func toldSoft(p impl.Picture, levels int64, by float32) impl.Picture {
	return changedPicture(p, levels, func(_ int, x float32, coarse bool) float32 {
		size := math.Abs(float64(x))
		switch {
		case coarse:
			return x
		case size > float64(by):
			return float32(math.Copysign(size-float64(by), float64(x)))
		}
		return 0
	})
}

func TestPromise5ChangesAsTold(t *testing.T) {
	r := rand.New(rand.NewPCG(21, 4))
	eachSize(func(wide, high int64) {
		for levels := int64(1); levels <= 4; levels++ {
			for _, make := range []func(*rand.Rand, int) []float32{middleNumbers, lightNumbers, anyNumbers} {
				p := anyPicture(r, wide, high, make)
				limit := float32(math.Abs(float64(p.Lights[r.IntN(len(p.Lights))]))) // reached exactly by one
				what := fmt.Sprint(" of ", p, levels, limit)
				want, number := toldQuiet(p, levels, limit)
				quiet, count, ok := impl.QuietPicture(p, levels, limit)
				checkPicture(t, "QuietPicture"+what, quiet, ok, want)
				if count != number {
					t.Error("QuietPicture"+what, " counts ", count, ", want ", number)
				}
				soft, ok := impl.SoftPicture(p, levels, limit)
				checkPicture(t, "SoftPicture"+what, soft, ok, toldSoft(p, levels, limit))
				checkRoughest(t, p, levels)
			}
		}
	})
}

// checkRoughest checks that no other light is greater, and none before it as great.
func checkRoughest(t *testing.T, p impl.Picture, levels int64) {
	t.Helper()
	x, y, rough, ok := impl.RoughestPlace(p, levels)
	best, found := -1.0, -1
	for i, light := range p.Lights {
		coarse := toldInBand(p, int64(i)%p.Wide, int64(i)/p.Wide, levels, impl.BandCoarse)
		if size := math.Abs(float64(light)); !coarse && size > best {
			best, found = size, i
		}
	}
	if ok != (found >= 0) || ok && (y*p.Wide+x != int64(found) || x >= p.Wide || float64(rough) != best) {
		t.Error("RoughestPlace of ", p, levels, ": ", x, y, rough, ok, ", want ", found, best)
	}
}

func TestPromise5FusedPictures(t *testing.T) {
	minus, most := number(minusZeroBits), number(0x7f7fffff)
	sort := sortScheme() // the bands are the pixels
	for _, c := range []struct {
		levels     int64
		a, b, want impl.Picture
	}{
		{1, pictureOf(2, 2, 1, 2, 3, 4), pictureOf(2, 2, 5, -6, 2, -4), pictureOf(2, 2, 3, -6, 3, 4)}, // a's of 4 and -4
		{1, pictureOf(3, 1, 1, -5, 9), pictureOf(3, 1, 3, 5, 2), pictureOf(3, 1, 2, -5, 5.5)},
		{2, pictureOf(3, 1, 1, -5, 9), pictureOf(3, 1, 3, 5, 2), pictureOf(3, 1, 2, -5, 9)},
		{4, pictureOf(1, 1, 1), pictureOf(1, 1, 4), pictureOf(1, 1, 2.5)},
		{1, pictureOf(1, 1, minus), pictureOf(1, 1, minus), pictureOf(1, 1, minus)},
		{1, pictureOf(1, 1, minus), pictureOf(1, 1, 0), pictureOf(1, 1, 0)},
		{1, pictureOf(1, 1, 1), pictureOf(1, 1, number(0x3f800001)), pictureOf(1, 1, 1)}, // their sum is rounded
		{1, pictureOf(1, 1, number(1)), pictureOf(1, 1, 0), pictureOf(1, 1, 0)},          // half of it is rounded
		{1, pictureOf(1, 1, number(1)), pictureOf(1, 1, number(2)), pictureOf(1, 1, number(2))},
	} {
		got, ok := impl.FusePictures(sort, c.a, c.b, c.levels)
		checkPicture(t, fmt.Sprint("FusePictures of ", c.a, c.b, c.levels), got, ok, c.want)
	}
	r := rand.New(rand.NewPCG(22, 4))
	eachSize(func(wide, high int64) {
		for levels := int64(1); levels <= 4; levels++ {
			for _, s := range manySchemes(r) {
				for _, make := range []func(*rand.Rand, int) []float32{middleNumbers, lightNumbers, anyNumbers} {
					a, b := anyPicture(r, wide, high, make), anyPicture(r, wide, high, make)
					got, ok := impl.FusePictures(s, a, b, levels)
					checkToldPicture(t, fmt.Sprint("FusePictures of ", a, b, s, levels), got, ok, toldFuse(s, a, b, levels))
				}
			}
		}
	})
	check := func(a, b impl.Picture) {
		t.Helper()
		got, ok := impl.FusePictures(sort, a, b, 1)
		checkNoPicture(t, fmt.Sprint("FusePictures of ", a, b), got, ok)
	}
	check(pictureOf(1, 1, most), pictureOf(1, 1, most)) // their sum is infinite
	check(pictureOf(2, 1, 1, 2), pictureOf(1, 2, 1, 2))
	check(pictureOf(4, 1, 1, 2, 3, 4), pictureOf(2, 2, 1, 2, 3, 4))
	check(pictureOf(1, 1, 1), pictureOf(2, 2, 1, 2, 3, 4))
	for _, p := range wrongPictures() {
		check(p, pictureOf(1, 1, 1))
		check(pictureOf(1, 1, 1), p)
		check(p, p)
	}
	// A light of a that is not coarse is as good where b's is as great.
	got, ok := impl.FusePictures(sort, pictureOf(2, 1, 1, most), pictureOf(2, 1, 1, -most), 1)
	checkPicture(t, "FusePictures of the greatest numbers", got, ok, pictureOf(2, 1, 1, most))
}

func TestPromise5FusedPicturesAreSharp(t *testing.T) {
	r := rand.New(rand.NewPCG(23, 4))
	eachSize(func(wide, high int64) {
		p := anyPicture(r, wide, high, lightNumbers)
		for levels := int64(1); levels <= 4; levels++ {
			got, ok := impl.FusePictures(impl.NineScheme(), p, p, levels)
			checkNear(t, "FusePictures of equal pictures", got.Lights, ok, p.Lights, 0.001)
		}
	})
	plain, _ := impl.PlainPicture(8, 8, 0)
	step, _ := impl.StepPicture(8, 8, 3, -8, 8)
	fused, ok := impl.FusePictures(impl.LinesScheme(), step, plain, 1)
	lifted, _ := impl.LiftPicture(impl.LinesScheme(), step, 1)
	again, _ := impl.LiftPicture(impl.LinesScheme(), fused, 1)
	for _, band := range []int64{impl.BandRight, impl.BandDown, impl.BandCross} {
		checkNear(t, "a band of what is sharp in one picture", toldBand(again, 1, band), ok, toldBand(lifted, 1, band), 0.001)
	}
}
