package tests

import (
	"fmt"
	"math/rand/v2"
	"testing"

	"loop.example/g01317/impl"
)

func oddPictures() []impl.Picture {
	all := append(wrongPictures(), pictureOf(1, 1, 3), pictureOf(16, 16, numbersBehind(256)...), pictureOf(3, 5, numbersBehind(15)...), pictureOf(16, 1, numbersBehind(16)...), indexPicture(1, 16), indexPicture(4, 6))
	for _, n := range oddBits() {
		all = append(all, pictureOf(1, 1, number(n)), pictureOf(2, 3, list(6, number(n))...), pictureOf(16, 1, list(16, number(n))...))
	}
	return all
}

func TestPromise1EveryPictureReturns(t *testing.T) {
	all := oddPictures()
	for k, p := range all {
		other := all[(7*k+3)%len(all)]
		callTwice(t, fmt.Sprint("a function of the picture ", k), func() string {
			crop, one := impl.CropPicture(p, 0, 0, 1, 1)
			put, two := impl.PutPicture(p, other, 0, 0)
			swapped, three := impl.SwapSides(p)
			blend, four := impl.BlendPictures(p, p, 0.5)
			energy, five := impl.EnergyOfPicture(p)
			far, six := impl.DistanceOf(p, other)
			ratio, seven := impl.PeakRatio(p, swapped, 255)
			return seen(impl.ValidPicture(p), impl.SamePicture(p, other), pictureSeen(crop), one, pictureSeen(put), two, pictureSeen(swapped), three, pictureSeen(blend), four, energy, five, far, six, ratio, seven)
		})
		for _, bits := range oddBits() {
			x := number(bits)
			callTwice(t, fmt.Sprintf("a function of the picture %d and of the number %08x", k, bits), func() string {
				blend, one := impl.BlendPictures(p, p, x)
				ratio, two := impl.PeakRatio(p, other, x)
				quiet, count, three := impl.QuietPicture(p, 2, x)
				soft, four := impl.SoftPicture(p, 3, x)
				marked, five := impl.MarkPicture(impl.NineScheme(), p, "10", x)
				marks, six := impl.ReadMarks(impl.NineScheme(), p, 2, x)
				return seen(pictureSeen(blend), one, ratio, two, pictureSeen(quiet), count, three, pictureSeen(soft), four, pictureSeen(marked), five, marks, six)
			})
		}
		for _, s := range oddSchemes() {
			callTwice(t, fmt.Sprint("a function of the picture ", k, " and of ", s), func() string {
				rows, one := impl.LiftRows(s, p)
				shared, two := impl.LiftRowsShared(s, p, 3)
				back, three := impl.DropRows(s, p)
				lifted, four := impl.LiftPicture(s, p, 4)
				dropped, five := impl.DropPicture(s, p, 4)
				fused, six := impl.FusePictures(s, p, other, 1)
				marked, seven := impl.MarkPicture(s, p, "1", 2)
				marks, eight := impl.ReadMarks(s, p, 1, 2)
				thumb, nine := impl.ThumbOf(s, p, 2)
				return seen(pictureSeen(rows), one, pictureSeen(shared), two, pictureSeen(back), three, pictureSeen(lifted), four, pictureSeen(dropped), five, pictureSeen(fused), six, pictureSeen(marked), seven, marks, eight, pictureSeen(thumb), nine)
			})
		}
	}
}

func TestPromise1EveryPictureAndIntegerReturn(t *testing.T) {
	for k, p := range oddPictures() {
		for _, n := range append(oddIntegers(), 4, 5, 16, 17) {
			callTwice(t, fmt.Sprint("a function of the picture ", k, " and of ", n), func() string {
				crop, one := impl.CropPicture(p, n, -n, n, 1)
				part, two := impl.CropPicture(p, 0, 0, n, n)
				put, three := impl.PutPicture(p, impl.Picture{Wide: 1, High: 1, Lights: []float32{2}}, n, n)
				shared, four := impl.LiftRowsShared(impl.LinesScheme(), p, n)
				lifted, five := impl.LiftPicture(impl.LinesScheme(), p, n)
				dropped, six := impl.DropPicture(impl.LinesScheme(), p, n)
				band, seven := impl.BandOf(p, n, 0)
				other, eight := impl.BandOf(p, 1, n)
				energies, nine := impl.EnergiesIn(p, n)
				quiet, count, ten := impl.QuietPicture(p, n, 1)
				soft, eleven := impl.SoftPicture(p, n, 1)
				marks, twelve := impl.ReadMarks(impl.LinesScheme(), p, n, 1)
				x, y, rough, last := impl.RoughestPlace(p, n)
				return seen(pictureSeen(crop), one, pictureSeen(part), two, pictureSeen(put), three, pictureSeen(shared), four, pictureSeen(lifted), five, pictureSeen(dropped), six, pictureSeen(band), seven,
					pictureSeen(other), eight, energies, nine, pictureSeen(quiet), count, ten, pictureSeen(soft), eleven, marks, twelve, x, y, rough, last)
			})
		}
		for _, bits := range append(oddTexts(), "0", "0110", "01100110011001100", "\x00") {
			callTwice(t, fmt.Sprintf("MarkPicture of the picture %d with %q", k, bits), func() string {
				marked, ok := impl.MarkPicture(impl.LinesScheme(), p, bits, 1)
				return seen(pictureSeen(marked), ok)
			})
		}
	}
	for _, n := range append(oddIntegers(), 4, 5, 16, 17) {
		for _, m := range append(oddIntegers(), 4, 5, 16, 17) {
			callTwice(t, fmt.Sprint("a function of ", n, " and ", m), func() string {
				plain, one := impl.PlainPicture(n, m, 2)
				step, two := impl.StepPicture(n, 2, m, 1, 2)
				x, y, w, h, three := impl.RegionOf(n, m, 2, 3)
				r, s, u, v, four := impl.RegionOf(5, 3, n, m)
				return seen(pictureSeen(plain), one, pictureSeen(step), two, x, y, w, h, three, r, s, u, v, four)
			})
		}
	}
	for _, bits := range oddBits() {
		callTwice(t, fmt.Sprintf("a function of the number %08x", bits), func() string {
			plain, one := impl.PlainPicture(16, 16, number(bits))
			step, two := impl.StepPicture(3, 1, 1, number(bits), 2)
			other, three := impl.StepPicture(3, 1, 1, 2, number(bits))
			return seen(pictureSeen(plain), one, pictureSeen(step), two, pictureSeen(other), three)
		})
	}
}

// Any number of workers makes the same, many times, and calls at the same time
// do not disturb each other.
func TestPromise1RowsAtTheSameTime(t *testing.T) {
	r, s := rand.New(rand.NewPCG(41, 4)), impl.NineScheme()
	for _, size := range [][2]int64{{16, 16}, {16, 1}, {1, 16}, {5, 3}} {
		p := anyPicture(r, size[0], size[1], lightNumbers)
		want, _ := impl.LiftRows(s, p)
		pictures := make(chan string)
		for k := range 64 {
			go func() {
				got, ok := impl.LiftRowsShared(s, p, int64(1+k%8))
				pictures <- seen(pictureSeen(got), ok)
			}()
		}
		for range 64 {
			if got := <-pictures; got != seen(pictureSeen(want), true) {
				t.Error("LiftRowsShared beside others: ", got)
			}
		}
	}
}

func TestPromise1PicturesAreNotModified(t *testing.T) {
	for _, size := range [][2]int64{{1, 1}, {1, 4}, {5, 1}, {4, 4}, {16, 16}} {
		lights, others := list(int(size[0]*size[1]), float32(0.75)), list(int(size[0]*size[1]), float32(-0.5))
		p, other := pictureOf(size[0], size[1]), pictureOf(size[0], size[1])
		p.Lights, other.Lights = lights, others
		part := pictureOf(1, 1)
		part.Lights = list(1, float32(9))
		s := impl.Scheme{Weights: list(4, float32(0.75)), Scale: 1.5}
		state := func() string {
			return seen(whole(p.Lights), whole(other.Lights), whole(part.Lights), whole(s.Weights))
		}
		before := state()
		impl.ValidPicture(p)
		impl.SamePicture(p, other)
		impl.CropPicture(p, 0, 0, 1, 1)
		impl.CropPicture(p, 0, 0, p.Wide, p.High)
		impl.PutPicture(p, part, 0, 0)
		impl.PutPicture(p, other, 0, 0)
		impl.SwapSides(p)
		impl.BlendPictures(p, other, 0.5)
		impl.EnergyOfPicture(p)
		impl.DistanceOf(p, other)
		impl.PeakRatio(p, other, 255)
		impl.LiftRows(s, p)
		impl.LiftRowsShared(s, p, 3)
		impl.DropRows(s, p)
		impl.LiftPicture(s, p, 4)
		impl.DropPicture(s, p, 4)
		impl.BandOf(p, 1, 0)
		impl.BandOf(p, 1, 1)
		impl.EnergiesIn(p, 2)
		impl.QuietPicture(p, 1, 5)
		impl.SoftPicture(p, 2, 0.25)
		impl.FusePictures(s, p, other, 2)
		impl.FusePictures(s, other, p, 1)
		impl.MarkPicture(s, p, "1", 1)
		impl.ReadMarks(s, p, 1, 1)
		impl.RoughestPlace(p, 1)
		impl.ThumbOf(s, p, 1)
		if state() != before {
			t.Error("pictures have been modified, of ", size)
		}
	}
}

func TestPromise1PicturesAreNew(t *testing.T) {
	for _, size := range [][2]int64{{2, 1}, {4, 4}, {16, 16}, {3, 5}} {
		s := impl.NineScheme()
		p, _ := impl.PlainPicture(size[0], size[1], 2)
		again, _ := impl.PlainPicture(size[0], size[1], 2)
		step, _ := impl.StepPicture(size[0], size[1], 1, 2, 3)
		crop, _ := impl.CropPicture(p, 0, 0, p.Wide, p.High)
		put, _ := impl.PutPicture(p, step, 0, 0)
		swapped, _ := impl.SwapSides(p)
		blend, _ := impl.BlendPictures(p, step, 0)
		rows, _ := impl.LiftRows(s, p)
		shared, _ := impl.LiftRowsShared(s, p, 2)
		back, _ := impl.DropRows(s, p)
		lifted, _ := impl.LiftPicture(s, p, 2)
		dropped, _ := impl.DropPicture(s, p, 2)
		band, _ := impl.BandOf(p, 1, 0)
		energies, _ := impl.EnergiesIn(p, 2)
		quiet, _, _ := impl.QuietPicture(p, 1, 0)
		soft, _ := impl.SoftPicture(p, 1, 0)
		fused, _ := impl.FusePictures(s, p, step, 1)
		marked, _ := impl.MarkPicture(s, p, "1", 1)
		thumb, _ := impl.ThumbOf(s, p, 1)
		all := [][]float32{energies, s.Weights}
		for k, q := range []impl.Picture{p, again, step, crop, put, swapped, blend, rows, shared, back, lifted, dropped, band, quiet, soft, fused, marked, thumb} {
			if !impl.ValidPicture(q) {
				t.Error("a function of pictures fails: ", size, k)
			}
			all = append(all, q.Lights)
		}
		checkApart(t, "a function of pictures", all...)
	}
	// A picture of one pixel stays what it is, but in other memory.
	p := pictureOf(1, 1, 5)
	all := [][]float32{p.Lights}
	for _, change := range []func(impl.Picture) (impl.Picture, bool){
		impl.SwapSides,
		func(p impl.Picture) (impl.Picture, bool) { return impl.LiftRows(impl.LinesScheme(), p) },
		func(p impl.Picture) (impl.Picture, bool) { return impl.LiftRowsShared(impl.LinesScheme(), p, 8) },
		func(p impl.Picture) (impl.Picture, bool) { return impl.DropRows(impl.LinesScheme(), p) },
		func(p impl.Picture) (impl.Picture, bool) { return impl.LiftPicture(impl.LinesScheme(), p, 4) },
		func(p impl.Picture) (impl.Picture, bool) { return impl.DropPicture(impl.LinesScheme(), p, 4) },
		func(p impl.Picture) (impl.Picture, bool) { return impl.BandOf(p, 4, impl.BandCoarse) },
		func(p impl.Picture) (impl.Picture, bool) { return impl.SoftPicture(p, 1, 1) },
		func(p impl.Picture) (impl.Picture, bool) { return impl.ThumbOf(impl.LinesScheme(), p, 4) },
	} {
		q, ok := change(p)
		checkPicture(t, "a picture of one pixel", q, ok, pictureOf(1, 1, 5))
		all = append(all, q.Lights)
	}
	checkApart(t, "a function of one pixel", all...)
}
