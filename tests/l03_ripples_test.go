package tests

import (
	"fmt"
	"math"
	"math/rand/v2"
	"testing"

	"loop.example/g01317/impl"
)

// wrongScales are too small, too great, or not finite.
func wrongScales() []float32 {
	return append(wrongNumbers(), 0, number(minusZeroBits), 0.25, number(0x3effffff), number(0x41800001), 17, 0x1p127, -1, -0.5, -16, number(1))
}

func checkRipples(t *testing.T, what string, got []complex64, ok bool, want []complex64) {
	t.Helper()
	if !ok || seen(got) != seen(want) {
		t.Errorf("%s: got %s, %v, want %s", what, seen(got), ok, seen(want))
	}
}

func finiteRipples(list []complex64) bool {
	for _, x := range list {
		if !finite([]float32{real(x), imag(x)}) {
			return false
		}
	}
	return true
}

func TestPromise4LengthsOfKernels(t *testing.T) {
	for _, c := range []struct {
		scale uint32
		long  int
	}{
		{0x3f000000, 5}, {0x3f800000, 7}, {0x3f800001, 9}, {0x3f7fffff, 7}, {0x40000000, 13}, {0x41800000, 97}, {0x417fffff, 97}, {0x3f555555, 7}, {0x3f555556, 7}, {0x3fc00000, 11},
		// The product with 3, which is more than an integer, is rounded to one.
		{0x3f2aaaab, 5}, {0x3f2aaaac, 7}, {0x3faaaaab, 9}, {0x3fd55556, 11}, {0x40aaaaab, 33}, {0x417aaaab, 95},
	} {
		kernel, ok := impl.RippleKernel(number(c.scale))
		if !ok || len(kernel) != c.long {
			t.Error("RippleKernel of ", number(c.scale), " has the length ", len(kernel), ok, ", want ", c.long)
		}
	}
}

func TestPromise4Kernels(t *testing.T) {
	kernel, ok := impl.RippleKernel(1)
	minus := number(minusZeroBits)
	e := []float32{1, number(0x3f1b4598), number(0x3e0a9555), number(0x3c360282)} // e to the power of -0.5, -2 and -4.5
	want := []complex64{}
	for k := -3; k <= 3; k++ {
		want = append(want, complex(e[max(k, -k)], 0))
	}
	checkRipples(t, "RippleKernel of 1", kernel, ok, want)
	kernel, ok = impl.RippleKernel(0.5)
	if !ok || len(kernel) != 5 || kernel[2] != 2 || bitsOf(imag(kernel[2])) != 0 || real(kernel[1]) != real(kernel[3]) {
		t.Error("RippleKernel of 0.5: ", kernel, ok)
	}
	// Four steps are one turn.
	kernel, ok = impl.RippleKernel(4)
	if !ok || len(kernel) != 25 || kernel[12] != 0.25 || real(kernel[13]) != 0 || !(imag(kernel[13]) > 0.24) || !(real(kernel[14]) < -0.22) || !(imag(kernel[15]) < -0.18) || !(imag(kernel[11]) < -0.24) {
		t.Error("RippleKernel of 4: ", kernel, ok)
	}
	r := rand.New(rand.NewPCG(31, 3))
	scales := numbersOf(0x3f000000, 0x3f000001, 0x3f2aaaab, 0x3faaaaab, 0x41800000, 0x417fffff, 0x40000000, 0x40400000)
	for range 300 {
		scales = append(scales, float32(0.5+15.5*r.Float64()))
	}
	for _, scale := range scales {
		kernel, ok := impl.RippleKernel(scale)
		checkRipples(t, fmt.Sprint("RippleKernel of ", scale), kernel, ok, toldKernel(scale))
	}
	for _, scale := range wrongScales() {
		if kernel, ok := impl.RippleKernel(scale); ok || len(kernel) != 0 {
			t.Error("RippleKernel of ", scale, ": ", kernel, ok)
		}
		if ripples, ok := impl.RipplesOf([]float32{1, minus}, scale); ok || len(ripples) != 0 {
			t.Error("RipplesOf with ", scale, ": ", ripples, ok)
		}
	}
}

func TestPromise4Ripples(t *testing.T) {
	minus := number(minusZeroBits)
	ripples, ok := impl.RipplesOf([]float32{1}, 1)
	checkRipples(t, "RipplesOf 1", ripples, ok, []complex64{1})
	ripples, ok = impl.RipplesOf([]float32{minus, minus}, 2)
	checkRipples(t, "RipplesOf -0, whose sums begin with +0", ripples, ok, []complex64{0, 0})
	// A one at 2 has the conjugate of the kernel, the last numbers first.
	kernel := toldKernel(4)
	ripples, ok = impl.RipplesOf([]float32{0, 0, 1, 0}, 4)
	want := []complex64{}
	for i := range 4 {
		want = append(want, complex(real(kernel[12+2-i]), 0-imag(kernel[12+2-i])))
	}
	checkRipples(t, "RipplesOf a one", ripples, ok, want)
	r := rand.New(rand.NewPCG(32, 3))
	for n := 1; n <= 128; n++ {
		for _, scale := range []float32{0.5, 16, float32(0.5 + 15.5*r.Float64()), float32(0.5 + r.Float64())} {
			for _, x := range [][]float32{middleNumbers(r, n), anyNumbers(r, n), lightNumbers(r, n)} {
				want := toldRipples(x, scale)
				ripples, ok := impl.RipplesOf(x, scale)
				what := fmt.Sprint("RipplesOf ", x, " with ", scale)
				if finiteRipples(want) {
					checkRipples(t, what, ripples, ok, want)
				} else if ok || len(ripples) != 0 {
					t.Error(what, ": ", ripples, ok)
				}
			}
		}
	}
}

func TestPromise4RipplesThatAreNotTold(t *testing.T) {
	most := number(0x7f7fffff)
	for _, x := range append(wrongLists(), []float32{most}, []float32{-most, 1}, []float32{1, 2, 3, most}) {
		if ripples, ok := impl.RipplesOf(x, 0.5); ok || len(ripples) != 0 {
			t.Error("RipplesOf ", x, ": ", ripples, ok)
		}
		if table, ok := impl.RippleTable(x, []float32{1, 0.5}); ok || len(table) != 0 {
			t.Error("RippleTable of ", x, ": ", table, ok)
		}
		for workers := int64(1); workers <= 8; workers++ {
			if table, ok := impl.TableShared(x, []float32{1, 0.5}, workers); ok || len(table) != 0 {
				t.Error("TableShared of ", x, ": ", table, ok)
			}
		}
	}
	ripples, ok := impl.RipplesOf([]float32{most}, 16)
	checkRipples(t, "RipplesOf the greatest number", ripples, ok, []complex64{complex(most/16, 0)})
	if table, ok := impl.RippleTable([]float32{most}, []float32{16}); ok || len(table) != 0 { // its power is infinite
		t.Error("RippleTable of the greatest number: ", table, ok)
	}
}

// manyScales has count scales from the least to the greatest one, in no order.
func manyScales(r *rand.Rand, count int) []float32 {
	scales := []float32{}
	for k := range count {
		scales = append(scales, []float32{0.5, 16, 1, float32(0.5 + 15.5*r.Float64()), float32(0.5 + r.Float64())}[k%5])
	}
	return scales
}

func TestPromise4TablesAndWorkers(t *testing.T) {
	r := rand.New(rand.NewPCG(33, 3))
	table, ok := impl.RippleTable([]float32{2}, []float32{1})
	checkToldBands(t, "RippleTable of 2", table, ok, [][]float32{{4}})
	for _, n := range []int{1, 2, 3, 17, 64, 127, 128} {
		for count := 1; count <= 12; count++ {
			scales := manyScales(r, count)
			for _, x := range [][]float32{lightNumbers(r, n), anyNumbers(r, n)} {
				want := toldTable(x, scales)
				table, ok := impl.RippleTable(x, scales)
				checkToldBands(t, fmt.Sprint("RippleTable of ", x, " with ", scales), table, ok, want)
				for workers := int64(1); workers <= 8; workers++ {
					table, ok := impl.TableShared(x, scales, workers)
					checkToldBands(t, fmt.Sprint("TableShared of ", x, " with ", scales, " and workers ", workers), table, ok, want)
				}
			}
		}
	}
}

func TestPromise4TablesThatAreNotMade(t *testing.T) {
	check := func(x, scales []float32, workers int64) {
		t.Helper()
		if table, ok := impl.TableShared(x, scales, workers); ok || len(table) != 0 {
			t.Error("TableShared of ", x, " with ", scales, workers, ": ", table, ok)
		}
		if workers < 1 || workers > 8 {
			return
		}
		if table, ok := impl.RippleTable(x, scales); ok || len(table) != 0 {
			t.Error("RippleTable of ", x, " with ", scales, ": ", table, ok)
		}
	}
	for _, workers := range []int64{0, -1, 9, 10, math.MinInt64, math.MaxInt64} {
		check([]float32{2}, []float32{1}, workers)
		check([]float32{2}, list(12, float32(1)), workers)
	}
	for workers := int64(1); workers <= 8; workers++ {
		for _, count := range []int{0, 13, 14, 1000} {
			check([]float32{2}, list(count, float32(1)), workers)
		}
		for _, scale := range wrongScales() {
			check([]float32{2}, []float32{scale}, workers)
			check([]float32{2}, []float32{1, 2, scale}, workers)
			check([]float32{2}, []float32{scale, 1, 2}, workers)
			check([]float32{2}, append(list(11, float32(3)), scale), workers)
		}
		for _, x := range wrongLists() {
			check(x, []float32{1}, workers)
			check(x, nil, workers)
		}
	}
}
