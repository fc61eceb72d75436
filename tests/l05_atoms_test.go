package tests

import (
	"fmt"
	"math"
	"math/rand/v2"
	"testing"

	"loop.example/g01317/impl"
)

func atomsSeen(atoms ...impl.Atom) string {
	all := []string{}
	for _, a := range atoms {
		all = append(all, seen(a.Place, a.Scale, a.Size))
	}
	return fmt.Sprint(all)
}

// wrongAtoms are those that no list of two numbers has.
func wrongAtoms() []impl.Atom {
	all := []impl.Atom{{Scale: 1, Place: -1}, {Scale: 1, Place: 2}, {Scale: 1, Place: 128}, {Scale: 1, Place: math.MinInt64}, {Scale: 1, Place: math.MaxInt64}, {}, {Size: 3}}
	for _, scale := range wrongScales() {
		all = append(all, impl.Atom{Scale: scale, Size: 1})
	}
	for _, size := range wrongNumbers() {
		all = append(all, impl.Atom{Scale: 1, Size: size})
	}
	return all
}

func TestPromise6AtomLists(t *testing.T) {
	minus, most := number(minusZeroBits), number(0x7f7fffff)
	for _, c := range []struct {
		count int64
		a     impl.Atom
		want  []float32
	}{
		{1, impl.Atom{Scale: 1, Size: 3}, []float32{3}}, {1, impl.Atom{Scale: 16, Size: -2}, []float32{-2}}, {1, impl.Atom{Scale: 0.5}, []float32{0}}, {1, impl.Atom{Scale: 0.5, Size: minus}, []float32{minus}}, {1, impl.Atom{Scale: 0.7, Size: most}, []float32{most}}, {2, impl.Atom{Scale: 4, Size: -most}, []float32{-most, minus}},
		{2, impl.Atom{Scale: 4, Size: 5}, []float32{5, 0}}, {2, impl.Atom{Place: 1, Scale: 4, Size: 5}, []float32{0, 5}}, {2, impl.Atom{Place: 1, Scale: 4, Size: -5}, []float32{minus, -5}}, // four steps are one turn
	} {
		got, ok := impl.AtomList(c.count, c.a)
		checkNumbers(t, fmt.Sprint("AtomList of ", c.count, c.a), got, ok, c.want)
	}
	// Beside its ripple, an atom has zeros with the sign of its Size.
	got, ok := impl.AtomList(128, impl.Atom{Place: 64, Scale: 0.5, Size: -1})
	for i, x := range got {
		if i < 62 || i > 66 {
			checkNumber(t, fmt.Sprint("an atom at ", i), x, minusZeroBits)
		} else if !ok || !(x < 0) {
			t.Error("an atom at ", i, ": ", x, ok)
		}
	}
	r := rand.New(rand.NewPCG(21, 5))
	for count := int64(1); count <= 128; count++ {
		for _, size := range []float32{1, -1, 0, minus, number(1), finiteNumber(r), middleNumber(r), number(0x7f7fffff)} {
			a := anyAtom(r, count, size)
			got, ok := impl.AtomList(count, a)
			checkTold(t, fmt.Sprint("AtomList of ", count, a), got, ok, toldAtom(count, toldKernel(a.Scale), a.Place, a.Size))
		}
		for _, place := range []int64{0, count - 1} {
			for _, scale := range []float32{0.5, 1, 16} {
				got, ok := impl.AtomList(count, impl.Atom{Place: place, Scale: scale, Size: 1})
				checkTold(t, fmt.Sprint("AtomList of ", count, place, scale), got, ok, toldAtom(count, toldKernel(scale), place, 1))
				if energy := wideEnergy(got); math.Abs(energy-1) > 0.00001 {
					t.Error("an atom with the Size 1 has the energy ", energy)
				}
			}
		}
	}
}

func TestPromise6AtomListsThatAreNotMade(t *testing.T) {
	check := func(count int64, a impl.Atom) {
		t.Helper()
		got, ok := impl.AtomList(count, a)
		checkTold(t, fmt.Sprint("AtomList of ", count, a), got, ok, wrongNumbers())
		got, ok = impl.FromAtoms(count, []impl.Atom{a})
		checkTold(t, fmt.Sprint("FromAtoms of ", count, a), got, ok, wrongNumbers())
		if good := (impl.Atom{Scale: 1, Size: 1}); count == 2 {
			got, ok = impl.FromAtoms(2, []impl.Atom{good, a, good})
			checkTold(t, fmt.Sprint("FromAtoms of some and of ", a), got, ok, wrongNumbers())
		}
	}
	for _, a := range wrongAtoms() {
		check(2, a)
	}
	for _, count := range []int64{0, -1, 129, 1 << 40, math.MinInt64, math.MaxInt64} {
		check(count, impl.Atom{Scale: 1, Size: 1})
		got, ok := impl.FromAtoms(count, nil)
		checkTold(t, fmt.Sprint("FromAtoms of none with count ", count), got, ok, wrongNumbers())
	}
	check(1, impl.Atom{Place: 1, Scale: 1, Size: 1})
	check(128, impl.Atom{Place: 128, Scale: 1, Size: 1})
}

func TestPromise6SumsOfAtoms(t *testing.T) {
	minus, most := number(minusZeroBits), number(0x7f7fffff)
	one := impl.Atom{Place: 1, Scale: 4, Size: -5}
	for _, c := range []struct {
		atoms []impl.Atom
		want  []float32
	}{
		{nil, []float32{0, 0}}, {[]impl.Atom{}, []float32{0, 0}}, {[]impl.Atom{one}, []float32{0, -5}}, {[]impl.Atom{one, one, {Scale: 4, Size: 2}}, []float32{2, -10}}, {list(16, one), []float32{0, -80}}, {[]impl.Atom{{Scale: 4, Size: minus}}, []float32{0, 0}},
		{[]impl.Atom{{Scale: 4, Size: 1}, {Scale: 4, Size: 0x1p24}, {Scale: 4, Size: -0x1p24}}, []float32{0, 0}}, {[]impl.Atom{{Scale: 4, Size: most}, {Scale: 4, Size: -most}, {Scale: 4, Size: most}}, []float32{most, 0}},
	} {
		got, ok := impl.FromAtoms(2, c.atoms)
		checkNumbers(t, fmt.Sprint("FromAtoms of ", c.atoms), got, ok, c.want)
	}
	r := rand.New(rand.NewPCG(22, 5))
	for count := int64(1); count <= 128; count++ {
		for _, size := range []func(*rand.Rand, int) []float32{lightNumbers, middleNumbers, anyNumbers} {
			atoms := []impl.Atom{}
			for _, x := range size(r, r.IntN(17)) {
				atoms = append(atoms, anyAtom(r, count, x))
			}
			got, ok := impl.FromAtoms(count, atoms)
			checkTold(t, fmt.Sprint("FromAtoms of ", count, atoms), got, ok, toldFromAtoms(count, atoms))
		}
	}
	for _, atoms := range [][]impl.Atom{list(17, one), list(1000, one), list(2, impl.Atom{Scale: 4, Size: most}), list(2, impl.Atom{Place: 1, Scale: 4, Size: -most})} {
		got, ok := impl.FromAtoms(2, atoms)
		checkTold(t, fmt.Sprint("FromAtoms of ", len(atoms), " atoms"), got, ok, wrongNumbers())
	}
}

func TestPromise6AtomsByHand(t *testing.T) {
	minus := number(minusZeroBits)
	for _, c := range []struct {
		list, scales []float32
		want         impl.Atom
		left         []float32
	}{
		{[]float32{5}, []float32{1}, impl.Atom{Scale: 1, Size: 5}, []float32{0}}, {[]float32{-5}, []float32{1, 2}, impl.Atom{Scale: 1, Size: -5}, []float32{0}}, {[]float32{-5}, list(12, float32(4)), impl.Atom{Scale: 4, Size: -5}, []float32{0}},
		{[]float32{0}, []float32{2, 1}, impl.Atom{Scale: 2}, []float32{0}}, {[]float32{minus}, []float32{2}, impl.Atom{Scale: 2}, []float32{minus}}, {make([]float32, 128), []float32{16, 0.5}, impl.Atom{Scale: 16}, make([]float32, 128)}, {[]float32{minus, 0, 0}, []float32{0.5}, impl.Atom{Scale: 0.5}, []float32{minus, 0, 0}}, // no atom takes anything, so that it is the first one
		{[]float32{3, 4}, []float32{4}, impl.Atom{Place: 1, Scale: 4, Size: 4}, []float32{3, 0}}, {[]float32{4, 4}, []float32{4}, impl.Atom{Scale: 4, Size: 4}, []float32{0, 4}}, {[]float32{4, -4}, []float32{4}, impl.Atom{Scale: 4, Size: 4}, []float32{0, -4}}, {[]float32{-4, 4}, []float32{4}, impl.Atom{Scale: 4, Size: -4}, []float32{0, 4}}, {[]float32{3, -4}, []float32{4, 4}, impl.Atom{Place: 1, Scale: 4, Size: -4}, []float32{3, 0}},
	} {
		atom, left, ok := impl.PursueOnce(c.list, c.scales)
		what := fmt.Sprint("PursueOnce of ", c.list, c.scales)
		if atomsSeen(atom) != atomsSeen(c.want) {
			t.Error(what, ": ", atom, ", want ", c.want)
		}
		checkNumbers(t, what, left, ok, c.left)
	}
	// An atom is found again where it is, whichever scales are looked at before.
	x, _ := impl.AtomList(128, impl.Atom{Place: 70, Scale: 6, Size: -20})
	atom, left, ok := impl.PursueOnce(x, []float32{2, 16, 3, 6, 0.5})
	if atom.Place != 70 || atom.Scale != 6 || math.Abs(float64(atom.Size)+20) > 0.001 {
		t.Error("PursueOnce of an atom: ", atom)
	}
	checkNear(t, "what is left of an atom", left, ok, make([]float32, 128), 0.001)
}

func checkPursued(t *testing.T, what string, atoms []impl.Atom, left []float32, ok bool, wantAtoms []impl.Atom, want []float32) {
	t.Helper()
	if !finite(want) {
		wantAtoms = nil
	}
	if atomsSeen(atoms...) != atomsSeen(wantAtoms...) {
		t.Error(what, ": ", atoms, ", want ", wantAtoms)
	}
	checkTold(t, what, left, ok, want)
}

func TestPromise6AtomsAsTold(t *testing.T) {
	r := rand.New(rand.NewPCG(23, 5))
	for _, n := range []int{1, 2, 3, 4, 7, 16, 33, 64} {
		for count := 1; count <= 12; count += 1 + n/8 {
			scales := manyScales(r, count)
			for _, x := range roughLists(r, n) {
				what := fmt.Sprint("PursueOnce of ", x, scales)
				wantAtom, want := toldPursueOnce(x, scales)
				atom, left, ok := impl.PursueOnce(x, scales)
				if ok {
					checkPursued(t, what, []impl.Atom{atom}, left, ok, []impl.Atom{wantAtom}, want)
				} else {
					checkPursued(t, what, nil, left, ok, nil, want)
					checkPursued(t, what, []impl.Atom{atom}, nil, true, []impl.Atom{{}}, nil)
				}
			}
		}
	}
	for n := 1; n <= 9; n++ {
		for _, count := range []int64{0, 1, 2, 16} {
			for _, x := range roughLists(r, n) {
				scales := manyScales(r, 1+r.IntN(4))
				wantAtoms, want := toldPursue(x, scales, count)
				atoms, left, ok := impl.Pursue(x, scales, count)
				checkPursued(t, fmt.Sprint("Pursue of ", x, scales, count), atoms, left, ok, wantAtoms, want)
			}
		}
	}
	x, scales := lightNumbers(r, 128), manyScales(r, 12)
	wantAtoms, want := toldPursue(x, scales, 2)
	atoms, left, ok := impl.Pursue(x, scales, 2)
	checkPursued(t, "Pursue of the longest list", atoms, left, ok, wantAtoms, want)
}

// Atoms and what is left are the list, nearly, and the more atoms there are, the
// less is left.
func TestPromise6AtomsAndWhatIsLeftAreTheList(t *testing.T) {
	r := rand.New(rand.NewPCG(24, 5))
	for n := 1; n <= 128; n++ {
		x, scales := lightNumbers(r, n), manyScales(r, 1+r.IntN(12))
		for _, count := range []int64{0, 1, 5, 16} {
			atoms, left, ok := impl.Pursue(x, scales, count)
			if !ok || int64(len(atoms)) != count {
				t.Fatal("Pursue of ", x, scales, count, ": ", atoms, left, ok)
			}
			sum, ok := impl.FromAtoms(int64(n), atoms)
			for i := range sum {
				sum[i] += left[i]
			}
			checkNear(t, fmt.Sprint("atoms and what is left of ", x, scales), sum, ok, x, 0.001)
			if count == 0 {
				checkNumbers(t, "what is left without atoms", left, true, x)
			} else if !(wideEnergy(left) < wideEnergy(x)*1.00001) {
				t.Error("Pursue leaves more than there was: ", wideEnergy(x), wideEnergy(left))
			}
		}
	}
	atoms, left, ok := impl.Pursue(make([]float32, 128), []float32{1, 2}, 16)
	if atomsSeen(atoms...) != atomsSeen(list(16, impl.Atom{Scale: 1})...) {
		t.Error("Pursue of zeros: ", atoms)
	}
	checkNumbers(t, "what is left of zeros", left, ok, make([]float32, 128))
}

func TestPromise6AtomsThatAreNotFound(t *testing.T) {
	most := number(0x7f7fffff)
	check := func(x, scales []float32, counts ...int64) {
		t.Helper()
		atom, left, ok := impl.PursueOnce(x, scales)
		what := fmt.Sprint(" of ", x, scales)
		checkPursued(t, "PursueOnce"+what, nil, left, ok, nil, wrongNumbers())
		if atom != (impl.Atom{}) {
			t.Error("PursueOnce"+what, ": ", atom)
		}
		for _, count := range counts {
			atoms, left, ok := impl.Pursue(x, scales, count)
			checkPursued(t, fmt.Sprint("Pursue"+what, count), atoms, left, ok, nil, wrongNumbers())
		}
	}
	for _, x := range wrongLists() {
		check(x, []float32{1}, 0, 1, 16)
	}
	for _, scales := range [][]float32{nil, {}, list(13, float32(1)), list(1000, float32(1))} {
		check([]float32{1, 2}, scales, 0, 1, 16)
	}
	for _, scale := range wrongScales() {
		check([]float32{1, 2}, []float32{scale}, 0, 1, 16)
		check([]float32{1, 2}, []float32{1, scale}, 0, 1)
		check([]float32{1, 2}, []float32{scale, 1}, 0, 1)
	}
	check(list(128, most), []float32{0.5}, 1, 16)        // a sum of products is infinite
	check([]float32{most, -most}, []float32{0.5}, 1, 16) // a number that is left is
	check([]float32{0, 0, -most, most, 0}, []float32{2, 0.5}, 1)
	for _, count := range []int64{-1, 17, 1 << 40, math.MinInt64, math.MaxInt64} {
		atoms, left, ok := impl.Pursue([]float32{1, 2}, []float32{1}, count)
		checkPursued(t, fmt.Sprint("Pursue with count ", count), atoms, left, ok, nil, wrongNumbers())
	}
	// Without atoms, nothing is looked for that is not finite.
	atoms, left, ok := impl.Pursue(list(128, most), []float32{0.5}, 0)
	checkPursued(t, "Pursue of great numbers without atoms", atoms, left, ok, nil, list(128, most))
}

func TestPromise6Misses(t *testing.T) {
	minus, most := number(minusZeroBits), number(0x7f7fffff)
	for _, c := range []struct {
		a, b []float32
		want float32
	}{
		{[]float32{1, 2}, []float32{1, 4}, 2}, {[]float32{5}, []float32{5}, 0}, {[]float32{minus}, []float32{0}, 0}, {[]float32{-3, 0}, []float32{3, 1}, 18.5}, {[]float32{most, 1}, []float32{most, 3}, 2}, {list(128, float32(2)), make([]float32, 128), 4}, {[]float32{1, 1, 0}, []float32{0, 0, 0}, 0x1.555556p-1}, {[]float32{0x1p-75}, []float32{0}, 0}, {[]float32{0x1.6p63, 0}, []float32{0, 0}, 0x1.e4p125},
	} {
		miss, ok := impl.MissOfLists(c.a, c.b)
		checkFound(t, fmt.Sprint("MissOfLists ", c.a, c.b), miss, ok, bitsOf(c.want), true)
	}
	r := rand.New(rand.NewPCG(25, 5))
	for n := 1; n <= 128; n++ {
		for _, a := range roughLists(r, n) {
			for _, b := range roughLists(r, n) {
				miss, ok := impl.MissOfLists(a, b)
				checkToldNumber(t, fmt.Sprint("MissOfLists ", a, b), miss, ok, toldMiss(a, b))
				clear, ok := impl.ClearnessOf(a, b)
				checkToldNumber(t, fmt.Sprint("ClearnessOf ", a, b), clear, ok, toldClearness(a, b))
			}
		}
	}
	check := func(a, b []float32) {
		t.Helper()
		miss, ok := impl.MissOfLists(a, b)
		checkFound(t, fmt.Sprint("MissOfLists ", a, b), miss, ok, 0, false)
		clear, ok := impl.ClearnessOf(a, b)
		checkFound(t, fmt.Sprint("ClearnessOf ", a, b), clear, ok, 0, false)
	}
	for _, x := range wrongLists() {
		check(x, x)
		check(x, list(len(x), float32(1)))
		check(list(len(x), float32(1)), x)
	}
	for _, c := range [][2][]float32{{{1}, {1, 2}}, {{1, 2}, {1}}, {{1}, nil}, {nil, {1}}, {{most}, {-most}}, {{0x1p64}, {0}}, {{0}, {-0x1p64}}, {{0x1.8p63, 0x1.8p63}, {0, 0}}, {list(128, float32(1)), list(127, float32(1))}} {
		check(c[0], c[1])
	}
}

func TestPromise6Clearness(t *testing.T) {
	minus := number(minusZeroBits)
	for _, c := range []struct {
		a, b []float32
		want float32
	}{
		{[]float32{2, 2}, []float32{2, 4}, 3.0103}, {[]float32{1}, []float32{2}, 0}, {[]float32{1, 1}, []float32{-9, -9}, -20}, {[]float32{10}, []float32{9}, 20}, {list(128, float32(3)), list(128, float32(0)), 0},
	} {
		clear, ok := impl.ClearnessOf(c.a, c.b)
		checkNear(t, fmt.Sprint("ClearnessOf ", c.a, c.b), []float32{clear}, ok, []float32{c.want}, 0.00001)
	}
	for _, c := range [][2][]float32{
		{{1}, {1}}, {{0}, {0}}, {{minus}, {0}}, {{1, 2, 3}, {1, 2, 3}}, {{0}, {1}}, {{minus, 0}, {1, 1}}, {{0x1p-80}, {1}}, {{0x1p-75}, {0}}, // a mean of squares is nothing
		{{0x1p63, 0}, {0x1p63, 0x1p-65}}, {{0x1p-65}, {0x1p63}}, // the quotient is infinite, or nothing
		{{0x1p64}, {0x1.000002p64}}, {{0x1p63, 0x1p63, 0x1p63, 0x1p63}, {0x1.000002p63, 0x1p63, 0x1p63, 0x1p63}}, // the energy is infinite
	} {
		clear, ok := impl.ClearnessOf(c[0], c[1])
		checkFound(t, fmt.Sprint("ClearnessOf ", c), clear, ok, 0, false)
	}
	for _, c := range [][2][]float32{{{1}, {1 + 0x1p-23}}, {{0x1p63}, {0x1.000002p63}}, {{0x1p-70}, {0x1p-71}}} {
		clear, ok := impl.ClearnessOf(c[0], c[1])
		checkToldNumber(t, fmt.Sprint("ClearnessOf ", c), clear, ok, toldClearness(c[0], c[1]))
	}
}
