package tests

import (
	"math"
	"math/rand/v2"
	"testing"

	"loop.example/g01317/impl"
)

// The formulas of chapter 4 once more, in another way: pictures are columns of
// lights that are lifted in their place, bands are told pixel by pixel by bounds
// that come from one division, and each 32-bit operation is a 64-bit one that is
// narrowed.

func pictureOf(wide, high int64, lights ...float32) impl.Picture {
	return impl.Picture{Wide: wide, High: high, Lights: lights}
}

func pictureSeen(p impl.Picture) string { return seen(p.Wide, p.High, p.Lights) }

func checkPicture(t *testing.T, what string, got impl.Picture, ok bool, want impl.Picture) {
	t.Helper()
	if !ok || pictureSeen(got) != pictureSeen(want) {
		t.Errorf("%s: got %v, %v, want %v", what, got, ok, want)
	}
}

func checkNoPicture(t *testing.T, what string, got impl.Picture, ok bool) {
	t.Helper()
	if ok || got.Wide != 0 || got.High != 0 || len(got.Lights) != 0 {
		t.Errorf("%s: got %v, %v, want a failure", what, got, ok)
	}
}

// checkToldPicture checks a picture that a function has to return if all lights are finite.
func checkToldPicture(t *testing.T, what string, got impl.Picture, ok bool, want impl.Picture) {
	t.Helper()
	if finite(want.Lights) {
		checkPicture(t, what, got, ok, want)
	} else {
		checkNoPicture(t, what, got, ok)
	}
}

// anyPicture has lights that some function makes.
func anyPicture(r *rand.Rand, wide, high int64, make func(*rand.Rand, int) []float32) impl.Picture {
	return pictureOf(wide, high, make(r, int(wide*high))...)
}

// eachSize calls a function for all sides that pictures can have.
func eachSize(do func(wide, high int64)) {
	for wide := int64(1); wide <= 16; wide++ {
		for high := int64(1); high <= 16; high++ {
			do(wide, high)
		}
	}
}

// sortScheme only puts evens before odds.
func sortScheme() impl.Scheme { return impl.Scheme{Weights: []float32{0}, Scale: 1} }

func manySchemes(r *rand.Rand) []impl.Scheme {
	return []impl.Scheme{impl.LinesScheme(), impl.NineScheme(), anyScheme(r), sortScheme()}
}

// columnsOf has a list for each x.
func columnsOf(p impl.Picture) [][]float32 {
	columns := make([][]float32, p.Wide)
	for i, light := range p.Lights {
		x := int64(i) % p.Wide
		columns[x] = append(columns[x], light)
	}
	return columns
}

func pictureOfColumns(columns [][]float32) impl.Picture {
	p := pictureOf(int64(len(columns)), int64(len(columns[0])))
	for y := range columns[0] {
		for _, column := range columns {
			p.Lights = append(p.Lights, column[y])
		}
	}
	return p
}

// toldLine lifts a line, or drops it, whose evens come before its odds.
func toldLine(s impl.Scheme, line []float32, back bool) []float32 {
	if back {
		half := (len(line) + 1) / 2
		return toldDropOnce(s, line[:half], line[half:])
	}
	evens, odds := toldLiftOnce(s, line)
	return append(evens, odds...)
}

// toldRows changes the first high rows of columns as far as they are wide.
func toldRows(s impl.Scheme, columns [][]float32, wide, high int64, back bool) {
	for y := range high {
		line := []float32{}
		for x := range wide {
			line = append(line, columns[x][y])
		}
		for x, light := range toldLine(s, line, back) {
			columns[x][y] = light
		}
	}
}

func toldColumns(s impl.Scheme, columns [][]float32, wide, high int64, back bool) {
	for x := range wide {
		copy(columns[x], toldLine(s, columns[x][:high], back))
	}
}

// toldHalf is a side that has been halved level times, rounded up each time,
// which is the same as a division that is rounded up once.
func toldHalf(side, level int64) int64 {
	return int64(math.Ceil(float64(side) / math.Pow(2, float64(level))))
}

func toldLiftPicture(s impl.Scheme, p impl.Picture, levels int64) impl.Picture {
	columns := columnsOf(p)
	for level := range levels {
		wide, high := toldHalf(p.Wide, level), toldHalf(p.High, level)
		toldRows(s, columns, wide, high, false)
		toldColumns(s, columns, wide, high, false)
	}
	return pictureOfColumns(columns)
}

func toldDropPicture(s impl.Scheme, p impl.Picture, levels int64) impl.Picture {
	columns := columnsOf(p)
	for level := levels - 1; level >= 0; level-- {
		wide, high := toldHalf(p.Wide, level), toldHalf(p.High, level)
		toldColumns(s, columns, wide, high, true)
		toldRows(s, columns, wide, high, true)
	}
	return pictureOfColumns(columns)
}

// toldInBand tells whether the pixel x, y lies in a band of a level.
func toldInBand(p impl.Picture, x, y, level, band int64) bool {
	if x >= toldHalf(p.Wide, level-1) || y >= toldHalf(p.High, level-1) {
		return false
	}
	right, down := x >= toldHalf(p.Wide, level), y >= toldHalf(p.High, level)
	switch band {
	case impl.BandRight:
		return right && !down
	case impl.BandDown:
		return !right && down
	case impl.BandCross:
		return right && down
	}
	return !right && !down
}

// toldPixels has the indices of the pixels of a band.
func toldPixels(p impl.Picture, level, band int64) []int {
	pixels := []int{}
	for i := range p.Lights {
		if toldInBand(p, int64(i)%p.Wide, int64(i)/p.Wide, level, band) {
			pixels = append(pixels, i)
		}
	}
	return pixels
}

func toldBand(p impl.Picture, level, band int64) []float32 {
	lights := []float32{}
	for _, i := range toldPixels(p, level, band) {
		lights = append(lights, p.Lights[i])
	}
	return lights
}

// changedPicture has the lights that a function makes of lights and of whether
// they are coarse.
func changedPicture(p impl.Picture, levels int64, change func(i int, light float32, coarse bool) float32) impl.Picture {
	changed := pictureOf(p.Wide, p.High)
	for i, light := range p.Lights {
		coarse := toldInBand(p, int64(i)%p.Wide, int64(i)/p.Wide, levels, impl.BandCoarse)
		changed.Lights = append(changed.Lights, change(i, light, coarse))
	}
	return changed
}

func toldFuse(s impl.Scheme, a, b impl.Picture, levels int64) impl.Picture {
	first, second := toldLiftPicture(s, a, levels), toldLiftPicture(s, b, levels)
	if !finite(first.Lights) || !finite(second.Lights) {
		return pictureOf(a.Wide, a.High, wrongNumbers()...)
	}
	return toldDropPicture(s, changedPicture(first, levels, func(i int, x float32, coarse bool) float32 {
		y := second.Lights[i]
		if coarse {
			return times32(0.5, plus32(x, y))
		}
		if math.Max(math.Abs(float64(x)), math.Abs(float64(y))) == math.Abs(float64(x)) {
			return x
		}
		return y
	}), levels)
}

// toldMark tells the light that hides a bit, and false where its quotient is too great.
func toldMark(light, size float32, bit byte) (float32, bool) {
	d := float32(0)
	if bit == '1' {
		d = 1
	}
	quotient := divided32(light, size)
	n := float32(math.Floor(float64(plus32(divided32(less32(quotient, d), 2), 0.5))))
	return times32(size, plus32(times32(2, n), d)), math.Abs(float64(quotient)) <= 1000000
}

func toldMarkPicture(s impl.Scheme, p impl.Picture, bits string, size float32) (impl.Picture, bool) {
	lifted := toldLiftPicture(s, p, 1)
	pixels := toldPixels(p, 1, impl.BandRight)
	if len(pixels) < len(bits) || !finite(lifted.Lights) {
		return impl.Picture{}, false
	}
	for k := range len(bits) {
		light, ok := toldMark(lifted.Lights[pixels[k]], size, bits[k])
		if !ok || !finite([]float32{light}) {
			return impl.Picture{}, false
		}
		lifted.Lights[pixels[k]] = light
	}
	marked := toldDropPicture(s, lifted, 1)
	return marked, finite(marked.Lights)
}

func toldReadMarks(s impl.Scheme, p impl.Picture, count int64, size float32) (string, bool) {
	lifted := toldLiftPicture(s, p, 1)
	lights := toldBand(lifted, 1, impl.BandRight)
	if int64(len(lights)) < count || !finite(lifted.Lights) {
		return "", false
	}
	bits := ""
	for _, light := range lights[:count] {
		quotient := divided32(light, size)
		if !(math.Abs(float64(quotient)) <= 1000000) {
			return "", false
		}
		if math.Mod(math.Floor(float64(plus32(quotient, 0.5))), 2) == 0 {
			bits += "0"
		} else {
			bits += "1"
		}
	}
	return bits, true
}
