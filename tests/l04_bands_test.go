package tests

import (
	"fmt"
	"math"
	"math/rand/v2"
	"testing"

	"loop.example/g01317/impl"
)

func TestPromise5RowsByHand(t *testing.T) {
	lines := impl.LinesScheme()
	double := impl.Scheme{Weights: []float32{1}, Scale: 2}
	minus := number(minusZeroBits)
	for _, c := range []struct {
		s         impl.Scheme
		p, lifted impl.Picture
	}{
		{lines, pictureOf(4, 1, 0, 0, 4, 4), pictureOf(4, 1, -1, 3.5, -2, 0)},
		{lines, pictureOf(3, 2, 1, 3, 2, 7, 7, 7), pictureOf(3, 2, 1.75, 2.75, 1.5, 7, 7, 0)},
		{double, pictureOf(2, 3, 1, 3, 6, 1, 0, 0), pictureOf(2, 3, 2, 2.5, 12, 6.5, 0, 0)}, // 1 times 2, and (3 + 1 + 1) / 2
		{double, pictureOf(1, 3, 1, minus, 6), pictureOf(1, 3, 1, minus, 6)},                // rows of one pixel stay
		{double, pictureOf(1, 1, minus), pictureOf(1, 1, minus)},
	} {
		got, ok := impl.LiftRows(c.s, c.p)
		checkPicture(t, fmt.Sprint("LiftRows of ", c.p), got, ok, c.lifted)
		for workers := int64(1); workers <= 8; workers++ {
			got, ok = impl.LiftRowsShared(c.s, c.p, workers)
			checkPicture(t, fmt.Sprint("LiftRowsShared of ", c.p, workers), got, ok, c.lifted)
		}
		got, ok = impl.DropRows(c.s, c.lifted)
		checkPicture(t, fmt.Sprint("DropRows of ", c.lifted), got, ok, c.p)
	}
}

func TestPromise5RowsAsTold(t *testing.T) {
	r := rand.New(rand.NewPCG(11, 4))
	eachSize(func(wide, high int64) {
		for _, s := range manySchemes(r) {
			for _, make := range []func(*rand.Rand, int) []float32{middleNumbers, anyNumbers} {
				p := anyPicture(r, wide, high, make)
				columns, back := columnsOf(p), columnsOf(p)
				toldRows(s, columns, wide, high, false)
				toldRows(s, back, wide, high, true)
				got, ok := impl.LiftRows(s, p)
				checkToldPicture(t, fmt.Sprint("LiftRows of ", p, s), got, ok, pictureOfColumns(columns))
				workers := 1 + r.Int64N(8)
				got, ok = impl.LiftRowsShared(s, p, workers)
				checkToldPicture(t, fmt.Sprint("LiftRowsShared of ", p, s, workers), got, ok, pictureOfColumns(columns))
				got, ok = impl.DropRows(s, p)
				checkToldPicture(t, fmt.Sprint("DropRows of ", p, s), got, ok, pictureOfColumns(back))
			}
		}
	})
}

func TestPromise5PicturesLiftedByHand(t *testing.T) {
	sort := sortScheme()
	for _, c := range []struct {
		s         impl.Scheme
		levels    int64
		p, lifted impl.Picture
	}{
		{sort, 1, indexPicture(3, 3), pictureOf(3, 3, 0, 2, 1, 6, 8, 7, 3, 5, 4)},
		{sort, 2, indexPicture(3, 3), pictureOf(3, 3, 0, 2, 1, 6, 8, 7, 3, 5, 4)}, // evens of 2 times 2 pixels are in order
		{sort, 1, indexPicture(5, 1), pictureOf(5, 1, 0, 2, 4, 1, 3)},
		{sort, 2, indexPicture(5, 1), pictureOf(5, 1, 0, 4, 2, 1, 3)},
		{sort, 4, indexPicture(5, 1), pictureOf(5, 1, 0, 4, 2, 1, 3)},
		{sort, 2, indexPicture(1, 5), pictureOf(1, 5, 0, 4, 2, 1, 3)},
		{sort, 3, indexPicture(1, 9), pictureOf(1, 9, 0, 8, 4, 2, 6, 1, 3, 5, 7)},
		// The rows become 4, 5 and 0, 0, and then the columns 8, 4 and 10, 5.
		{impl.Scheme{Weights: []float32{1}, Scale: 2}, 1, pictureOf(2, 2, 2, 6, 0, 0), pictureOf(2, 2, 8, 10, 4, 5)},
		{impl.Scheme{Weights: []float32{1}, Scale: 2}, 4, pictureOf(1, 1, 5), pictureOf(1, 1, 5)},
	} {
		got, ok := impl.LiftPicture(c.s, c.p, c.levels)
		checkPicture(t, fmt.Sprint("LiftPicture of ", c.p, c.levels), got, ok, c.lifted)
		got, ok = impl.DropPicture(c.s, c.lifted, c.levels)
		checkPicture(t, fmt.Sprint("DropPicture of ", c.lifted, c.levels), got, ok, c.p)
	}
}

func TestPromise5PicturesLiftedAsTold(t *testing.T) {
	r := rand.New(rand.NewPCG(12, 4))
	eachSize(func(wide, high int64) {
		for levels := int64(1); levels <= 4; levels++ {
			for _, s := range manySchemes(r) {
				for _, make := range []func(*rand.Rand, int) []float32{middleNumbers, anyNumbers} {
					p := anyPicture(r, wide, high, make)
					got, ok := impl.LiftPicture(s, p, levels)
					checkToldPicture(t, fmt.Sprint("LiftPicture of ", p, s, levels), got, ok, toldLiftPicture(s, p, levels))
					got, ok = impl.DropPicture(s, p, levels)
					checkToldPicture(t, fmt.Sprint("DropPicture of ", p, s, levels), got, ok, toldDropPicture(s, p, levels))
				}
			}
		}
	})
}

func TestPromise5PicturesAreUndoneNearly(t *testing.T) {
	r := rand.New(rand.NewPCG(13, 4))
	eachSize(func(wide, high int64) {
		p := anyPicture(r, wide, high, lightNumbers)
		for _, s := range []impl.Scheme{impl.LinesScheme(), impl.NineScheme()} {
			rows, ok := impl.LiftRows(s, p)
			if !ok || !impl.ValidPicture(rows) {
				t.Error("LiftRows of ", p, ": ", rows, ok)
			}
			back, ok := impl.DropRows(s, rows)
			checkNear(t, "DropRows of LiftRows", back.Lights, ok, p.Lights, 0.001)
			for levels := int64(1); levels <= 4; levels++ {
				lifted, ok := impl.LiftPicture(s, p, levels)
				if !ok || !impl.ValidPicture(lifted) || lifted.Wide != wide || lifted.High != high {
					t.Error("LiftPicture of ", p, levels, ": ", lifted, ok)
				}
				back, ok := impl.DropPicture(s, lifted, levels)
				checkNear(t, "DropPicture of LiftPicture", back.Lights, ok, p.Lights, 0.001)
			}
		}
	})
}

func TestPromise5PlainPicturesHaveNoRipples(t *testing.T) {
	eachSize(func(wide, high int64) {
		p, _ := impl.PlainPicture(wide, high, -7.25)
		for levels := int64(1); levels <= 4; levels++ {
			lifted, ok := impl.LiftPicture(impl.LinesScheme(), p, levels)
			energies, also := impl.EnergiesIn(lifted, levels)
			want := make([]float32, 3*levels+1)
			want[3*levels] = 7.25 * 7.25 * float32(toldHalf(wide, levels)*toldHalf(high, levels))
			checkNumbers(t, fmt.Sprint("EnergiesIn a plain picture of ", wide, high, levels), energies, ok && also, want)
			thumb, ok := impl.ThumbOf(impl.LinesScheme(), p, levels)
			plain, _ := impl.PlainPicture(toldHalf(wide, levels), toldHalf(high, levels), -7.25)
			checkPicture(t, fmt.Sprint("ThumbOf a plain picture of ", wide, high, levels), thumb, ok, plain)
		}
	})
}

// wrongLevels are levels that no function of chapter 4 takes.
func wrongLevels() []int64 { return []int64{0, -1, 5, 6, 62, 63, 64, math.MinInt64, math.MaxInt64} }

func TestPromise5PicturesThatAreNotLifted(t *testing.T) {
	check := func(s impl.Scheme, p impl.Picture, levels int64) {
		t.Helper()
		what := fmt.Sprint(" of ", p, " with ", s, levels)
		got, ok := impl.LiftPicture(s, p, levels)
		checkNoPicture(t, "LiftPicture"+what, got, ok)
		got, ok = impl.ThumbOf(s, p, levels)
		checkNoPicture(t, "ThumbOf"+what, got, ok)
		got, ok = impl.FusePictures(s, p, p, levels)
		checkNoPicture(t, "FusePictures"+what, got, ok)
		marks, ok := impl.ReadMarks(s, p, 1, 1)
		if levels == 1 && (ok || marks != "") {
			t.Error("ReadMarks"+what, ": ", marks, ok)
		}
		if levels == 1 {
			got, ok = impl.MarkPicture(s, p, "1", 1)
			checkNoPicture(t, "MarkPicture"+what, got, ok)
		}
	}
	checkRows := func(s impl.Scheme, p impl.Picture) {
		t.Helper()
		what := fmt.Sprint(" of ", p, " with ", s)
		got, ok := impl.LiftRows(s, p)
		checkNoPicture(t, "LiftRows"+what, got, ok)
		for workers := int64(1); workers <= 8; workers++ {
			got, ok := impl.LiftRowsShared(s, p, workers)
			checkNoPicture(t, "LiftRowsShared"+what, got, ok)
		}
		check(s, p, 1)
	}
	checkDrops := func(s impl.Scheme, p impl.Picture) {
		t.Helper()
		got, ok := impl.DropRows(s, p)
		checkNoPicture(t, fmt.Sprint("DropRows of ", p, " with ", s), got, ok)
		got, ok = impl.DropPicture(s, p, 1)
		checkNoPicture(t, fmt.Sprint("DropPicture of ", p, " with ", s), got, ok)
	}
	for _, p := range wrongPictures() {
		checkRows(impl.NineScheme(), p)
		checkDrops(impl.NineScheme(), p)
	}
	for _, s := range wrongSchemes() {
		for _, p := range []impl.Picture{pictureOf(1, 1, 2), pictureOf(1, 2, 2, 3), pictureOf(4, 4, list(16, float32(1))...)} {
			checkRows(s, p)
			checkDrops(s, p)
		}
	}
	for _, levels := range wrongLevels() {
		for _, p := range []impl.Picture{pictureOf(1, 1, 2), indexPicture(16, 16)} {
			check(impl.LinesScheme(), p, levels)
			got, ok := impl.DropPicture(impl.LinesScheme(), p, levels)
			checkNoPicture(t, fmt.Sprint("DropPicture of ", p, " with levels ", levels), got, ok)
		}
	}
	for _, workers := range []int64{0, -1, 9, 10, 1 << 32, math.MinInt64, math.MaxInt64} {
		for _, p := range []impl.Picture{pictureOf(1, 1, 2), indexPicture(16, 16)} {
			got, ok := impl.LiftRowsShared(impl.LinesScheme(), p, workers)
			checkNoPicture(t, fmt.Sprint("LiftRowsShared with workers ", workers), got, ok)
		}
	}
	most, zero := number(0x7f7fffff), impl.Scheme{Weights: []float32{0}, Scale: 1.5}
	checkRows(impl.LinesScheme(), pictureOf(3, 1, most, 0, most)) // the sum of both evens is infinite
	checkRows(impl.LinesScheme(), pictureOf(3, 2, 0, 0, 0, most, 0, most))
	check(impl.LinesScheme(), pictureOf(1, 3, most, 0, most), 1) // only its column is infinite
	check(zero, pictureOf(4, 1, most/2, 0, 0, 0), 2)             // only its second level is infinite
	checkDrops(impl.LinesScheme(), pictureOf(3, 1, most, most, -most))
	got, ok := impl.DropPicture(impl.LinesScheme(), pictureOf(1, 3, most, most, -most), 1)
	checkNoPicture(t, "DropPicture whose column is infinite", got, ok)
	got, ok = impl.LiftRows(impl.LinesScheme(), pictureOf(1, 3, most, 0, most))
	checkPicture(t, "LiftRows of one column", got, ok, pictureOf(1, 3, most, 0, most))
}

func TestPromise5RegionsByHand(t *testing.T) {
	for _, c := range []struct{ wide, high, level, band, x, y, w, h int64 }{
		{5, 3, 1, impl.BandRight, 3, 0, 2, 2}, {5, 3, 1, impl.BandCoarse, 0, 0, 3, 2}, {5, 3, 1, impl.BandDown, 0, 2, 3, 1}, {5, 3, 1, impl.BandCross, 3, 2, 2, 1},
		{5, 3, 2, impl.BandCoarse, 0, 0, 2, 1}, {5, 3, 2, impl.BandRight, 2, 0, 1, 1}, {5, 3, 2, impl.BandDown, 0, 1, 2, 1}, {5, 3, 2, impl.BandCross, 2, 1, 1, 1},
		{5, 3, 3, impl.BandCoarse, 0, 0, 1, 1}, {5, 3, 3, impl.BandRight, 1, 0, 1, 1}, {5, 3, 3, impl.BandDown, 0, 1, 1, 0}, {5, 3, 3, impl.BandCross, 1, 1, 1, 0},
		{5, 3, 4, impl.BandCoarse, 0, 0, 1, 1}, {5, 3, 4, impl.BandRight, 1, 0, 0, 1}, {1, 1, 1, impl.BandRight, 1, 0, 0, 1}, {1, 1, 4, impl.BandCross, 1, 1, 0, 0},
		{16, 16, 1, impl.BandCross, 8, 8, 8, 8}, {16, 16, 4, impl.BandCoarse, 0, 0, 1, 1}, {16, 16, 4, impl.BandCross, 1, 1, 1, 1}, {1, 16, 1, impl.BandDown, 0, 8, 1, 8}, {16, 1, 2, impl.BandRight, 4, 0, 4, 1},
	} {
		x, y, w, h, ok := impl.RegionOf(c.wide, c.high, c.level, c.band)
		if x != c.x || y != c.y || w != c.w || h != c.h || !ok {
			t.Error("RegionOf ", c, ": ", x, y, w, h, ok)
		}
	}
}

func TestPromise5RegionsAndBandsAsTold(t *testing.T) {
	r := rand.New(rand.NewPCG(14, 4))
	eachSize(func(wide, high int64) {
		p := anyPicture(r, wide, high, anyNumbers)
		for level := int64(1); level <= 4; level++ {
			for band := int64(0); band <= 3; band++ {
				what := fmt.Sprint(" of ", wide, high, level, band)
				x, y, w, h, ok := impl.RegionOf(wide, high, level, band)
				if !ok || x < 0 || y < 0 || w < 0 || h < 0 || x+w > wide || y+h > high {
					t.Error("RegionOf"+what, ": ", x, y, w, h, ok)
				}
				lights := toldBand(p, level, band)
				got, ok := impl.BandOf(p, level, band)
				if len(lights) == 0 {
					checkNoPicture(t, "BandOf"+what, got, ok)
					if w*h != 0 {
						t.Error("RegionOf"+what, " is not empty: ", w, h)
					}
					continue
				}
				checkPicture(t, "BandOf"+what, got, ok, pictureOf(w, h, lights...))
				checkPicture(t, "the pixels of RegionOf"+what, toldPart(p, x, y, w, h), true, pictureOf(w, h, lights...))
			}
		}
	})
}

func TestPromise5RegionsThatThereAreNot(t *testing.T) {
	check := func(wide, high, level, band int64) {
		t.Helper()
		x, y, w, h, ok := impl.RegionOf(wide, high, level, band)
		if x != 0 || y != 0 || w != 0 || h != 0 || ok {
			t.Error("RegionOf ", wide, high, level, band, ": ", x, y, w, h, ok)
		}
		if wide == 16 && high == 16 {
			got, ok := impl.BandOf(indexPicture(16, 16), level, band)
			checkNoPicture(t, fmt.Sprint("BandOf ", level, band), got, ok)
		}
	}
	for _, side := range wrongSides() {
		check(side, 1, 1, 0)
		check(16, side, 4, 3)
		check(side, side, 1, 1)
	}
	for _, level := range wrongLevels() {
		check(1, 1, level, 0)
		check(16, 16, level, 3)
	}
	for _, band := range []int64{-1, 4, 5, 1 << 32, math.MinInt64, math.MaxInt64} {
		check(1, 1, 1, band)
		check(16, 16, 4, band)
	}
	for _, p := range wrongPictures() {
		got, ok := impl.BandOf(p, 1, impl.BandCoarse)
		checkNoPicture(t, fmt.Sprint("BandOf ", p), got, ok)
		if energies, ok := impl.EnergiesIn(p, 1); ok || len(energies) != 0 {
			t.Error("EnergiesIn ", p, ": ", energies, ok)
		}
	}
}

func toldEnergies(p impl.Picture, levels int64) []float32 {
	energies := []float32{}
	for level := int64(1); level <= levels; level++ {
		for _, band := range []int64{impl.BandRight, impl.BandDown, impl.BandCross} {
			energies = append(energies, toldPower(toldBand(p, level, band)))
		}
	}
	return append(energies, toldPower(toldBand(p, levels, impl.BandCoarse)))
}

func TestPromise5EnergiesInBands(t *testing.T) {
	minus := number(minusZeroBits)
	for _, c := range []struct {
		p      impl.Picture
		levels int64
		want   []float32
	}{
		{pictureOf(1, 1, -3), 1, []float32{0, 0, 0, 9}}, {pictureOf(1, 1, -3), 4, []float32{0, 0, 0, 0, 0, 0, 0, 0, 0, 0, 0, 0, 9}}, {pictureOf(1, 1, minus), 1, []float32{0, 0, 0, 0}},
		{pictureOf(2, 2, 1, 2, 3, 4), 1, []float32{4, 9, 16, 1}}, {pictureOf(4, 1, 1, 2, 3, 4), 2, []float32{25, 0, 0, 4, 0, 0, 1}}, {pictureOf(1, 3, 1, 2, 3), 2, []float32{0, 9, 0, 0, 4, 0, 1}},
		{pictureOf(3, 3, 0x1p12, 1, 0, 1, 0, 0, 0, 0, 0), 1, []float32{0, 0, 0, 0x1p24}}, {pictureOf(3, 3, 0, 1, 0, 1, 0x1p12, 0, 0, 0, 0), 1, []float32{0, 0, 0, 0x1.000002p24}}, // row by row
	} {
		got, ok := impl.EnergiesIn(c.p, c.levels)
		checkNumbers(t, fmt.Sprint("EnergiesIn ", c.p, c.levels), got, ok, c.want)
	}
	r := rand.New(rand.NewPCG(15, 4))
	eachSize(func(wide, high int64) {
		for levels := int64(1); levels <= 4; levels++ {
			for _, make := range []func(*rand.Rand, int) []float32{middleNumbers, lightNumbers, anyNumbers} {
				p := anyPicture(r, wide, high, make)
				got, ok := impl.EnergiesIn(p, levels)
				checkTold(t, fmt.Sprint("EnergiesIn ", p, levels), got, ok, toldEnergies(p, levels))
			}
		}
	})
	for _, levels := range wrongLevels() {
		if got, ok := impl.EnergiesIn(indexPicture(16, 16), levels); ok || len(got) != 0 {
			t.Error("EnergiesIn with levels ", levels, ": ", got, ok)
		}
	}
	for i := range 4 { // any of the bands is infinite
		p := pictureOf(2, 2, 1, 1, 1, 1)
		p.Lights[i] = 0x1p64
		if got, ok := impl.EnergiesIn(p, 1); ok || len(got) != 0 {
			t.Error("EnergiesIn ", p, ": ", got, ok)
		}
	}
}

func TestPromise5Thumbs(t *testing.T) {
	sort := sortScheme()
	for _, c := range []struct {
		levels int64
		p      impl.Picture
		want   impl.Picture
	}{
		{1, indexPicture(3, 3), pictureOf(2, 2, 0, 2, 6, 8)}, {2, indexPicture(3, 3), pictureOf(1, 1, 0)}, {1, indexPicture(5, 1), pictureOf(3, 1, 0, 2, 4)}, {2, indexPicture(1, 6), pictureOf(1, 2, 0, 4)}, {4, pictureOf(1, 1, 3), pictureOf(1, 1, 3)},
	} {
		got, ok := impl.ThumbOf(sort, c.p, c.levels)
		checkPicture(t, fmt.Sprint("ThumbOf ", c.p, c.levels), got, ok, c.want)
	}
	r := rand.New(rand.NewPCG(16, 4))
	eachSize(func(wide, high int64) {
		for levels := int64(1); levels <= 4; levels++ {
			for _, s := range manySchemes(r) {
				p := anyPicture(r, wide, high, lightNumbers)
				want := pictureOf(toldHalf(wide, levels), toldHalf(high, levels), toldBand(toldLiftPicture(s, p, levels), levels, impl.BandCoarse)...)
				got, ok := impl.ThumbOf(s, p, levels)
				checkPicture(t, fmt.Sprint("ThumbOf ", p, s, levels), got, ok, want)
			}
		}
	})
	// A thumb is not told where another band is infinite.
	got, ok := impl.ThumbOf(impl.Scheme{Weights: []float32{1}, Scale: 0.5}, pictureOf(2, 1, 1e38, 1e38), 1)
	checkNoPicture(t, "ThumbOf a picture with an infinite band", got, ok)
}
