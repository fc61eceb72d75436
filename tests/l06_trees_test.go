package tests

import (
	"fmt"
	"math"
	"math/rand/v2"
	"slices"
	"testing"

	"loop.example/g01317/impl"
)

func TestPromise7ParentsByHand(t *testing.T) {
	for _, c := range []struct {
		n, levels int64
		want      []int64
	}{
		{8, 2, []int64{-1, -1, -1, -1, 2, 2, 3, 3}}, {8, 1, []int64{-1, -1, -1, -1, -1, -1, -1, -1}}, {8, 3, []int64{-1, -1, 1, 1, 2, 2, 3, 3}}, {8, 6, []int64{-1, -1, 1, 1, 2, 2, 3, 3}}, {1, 1, []int64{-1}}, {1, 6, []int64{-1}}, {2, 1, []int64{-1, -1}}, {2, 6, []int64{-1, -1}},
		{3, 1, []int64{-1, -1, -1}}, {3, 2, []int64{-1, -1, 1}}, {5, 2, []int64{-1, -1, -1, 2, 2}}, {5, 3, []int64{-1, -1, 1, 2, 2}}, {6, 2, []int64{-1, -1, -1, 2, 2, 2}}, {7, 2, []int64{-1, -1, -1, -1, 2, 2, 3}}, // of 6, the last one has the last parent there is
		{10, 3, []int64{-1, -1, -1, 2, 2, 3, 3, 4, 4, 4}},
	} {
		for i, want := range c.want {
			got, ok := impl.ParentOf(c.n, c.levels, int64(i))
			checkCount(t, fmt.Sprint("ParentOf ", c.n, c.levels, i), got, ok, want)
		}
	}
	for _, c := range [][4]int64{{128, 6, 0, -1}, {128, 6, 3, -1}, {128, 6, 4, 2}, {128, 6, 7, 3}, {128, 6, 64, 32}, {128, 6, 127, 63}, {127, 6, 126, 63}, {128, 1, 127, -1}, {126, 2, 125, 62}} {
		got, ok := impl.ParentOf(c[0], c[1], c[2])
		checkCount(t, fmt.Sprint("ParentOf ", c[:3]), got, ok, c[3])
	}
}

func TestPromise7TreesByHand(t *testing.T) {
	for _, c := range []struct {
		n, levels, i int64
		want         []int64
	}{
		{8, 2, 3, []int64{3, 6, 7}}, {8, 2, 2, []int64{2, 4, 5}}, {8, 2, 0, []int64{0}}, {8, 2, 1, []int64{1}}, {8, 2, 7, []int64{7}}, {8, 3, 1, []int64{1, 2, 3, 4, 5, 6, 7}}, {8, 3, 2, []int64{2, 4, 5}}, {8, 1, 4, []int64{4}}, {1, 6, 0, []int64{0}}, {2, 1, 1, []int64{1}},
		{6, 2, 2, []int64{2, 3, 4, 5}}, {10, 3, 2, []int64{2, 3, 4, 5, 6, 7, 8, 9}}, {10, 3, 4, []int64{4, 7, 8, 9}}, {128, 6, 2, append([]int64{2, 4, 5, 8, 9, 10, 11}, append(append(indexList(128)[16:24], indexList(128)[32:48]...), indexList(128)[64:96]...)...)},
	} {
		got, ok := impl.TreeOf(c.n, c.levels, c.i)
		checkIntegers(t, fmt.Sprint("TreeOf ", c.n, c.levels, c.i), got, ok, c.want)
	}
}

func TestPromise7Trees(t *testing.T) {
	for n := int64(1); n <= 128; n++ {
		for levels := int64(1); levels <= 6; levels++ {
			for i, want := range toldParents(n, levels) {
				got, ok := impl.ParentOf(n, levels, int64(i))
				checkCount(t, fmt.Sprint("ParentOf ", n, levels, i), got, ok, want)
				tree, ok := impl.TreeOf(n, levels, int64(i))
				checkIntegers(t, fmt.Sprint("TreeOf ", n, levels, i), tree, ok, toldTree(n, levels, int64(i)))
			}
		}
	}
}

func TestPromise7TreesThatThereAreNot(t *testing.T) {
	check := func(n, levels, i int64) {
		t.Helper()
		parent, ok := impl.ParentOf(n, levels, i)
		checkNone(t, fmt.Sprint("ParentOf ", n, levels, i), ok, parent)
		tree, ok := impl.TreeOf(n, levels, i)
		checkNone(t, fmt.Sprint("TreeOf ", n, levels, i), ok, tree)
	}
	for _, n := range []int64{0, -1, 129, 1 << 32, math.MinInt64, math.MaxInt64} {
		check(n, 2, 0)
		check(n, 2, -1)
	}
	for _, levels := range []int64{0, -1, 7, 64, math.MinInt64, math.MaxInt64} {
		check(8, levels, 0)
		check(1, levels, 0)
	}
	for _, i := range []int64{-1, -2, 8, 9, 128, 1 << 32, math.MinInt64, math.MaxInt64} {
		check(8, 2, i)
		check(8, 6, i)
	}
	check(1, 1, 1)
	check(128, 6, 128)
}

func TestPromise7ZeroTreesByHand(t *testing.T) {
	for _, c := range []struct {
		list          []int64
		levels, plane int64
		want          []int64
	}{
		{[]int64{4, 0, 0, 1, 0, 0, 0, 0}, 2, 0, []int64{1, 2, 6, 7}}, {[]int64{4, 0, 0, 1, 0, 0, 0, 0}, 2, 1, []int64{1, 2, 3}}, {[]int64{4, 0, 0, 1, 0, 0, 0, 0}, 2, 3, []int64{0, 1, 2, 3}}, {[]int64{4, 0, 0, 1, 0, 0, 0, 0}, 2, 2, []int64{1, 2, 3}}, {[]int64{4, 0, 0, 1, 0, 0, 0, 0}, 1, 0, []int64{1, 2, 4, 5, 6, 7}},
		{make([]int64, 8), 3, 0, []int64{0, 1}}, {make([]int64, 8), 3, 24, []int64{0, 1}}, {[]int64{0, 0, 0, 0, 0, 0, 0, 1}, 3, 0, []int64{0, 2, 6}}, {[]int64{0, 0, 0, 0, 0, 0, 0, -1}, 3, 0, []int64{0, 2, 6}}, {[]int64{0, 0, 0, 0, 0, 0, 0, -1}, 3, 1, []int64{0, 1}}, {[]int64{0, 1, 0, 0, 0, 0, 0, 0}, 3, 0, []int64{0, 2, 3}}, {[]int64{0, 0, 1, 0, 0, 0, 0, 0}, 3, 0, []int64{0, 3, 4, 5}}, // grandchildren of a root are none
		{[]int64{0}, 1, 0, []int64{0}}, {[]int64{1}, 6, 0, nil}, {[]int64{-1}, 6, 1, []int64{0}}, {list(128, int64(1000000)), 6, 19, nil}, {list(128, int64(-1000000)), 6, 20, []int64{0, 1, 2, 3}}, {list(128, int64(1000000)), 6, 24, []int64{0, 1, 2, 3}}, {list(128, int64(0)), 1, 0, indexList(128)}, {[]int64{7, 7, 0, 7, 0, 0}, 2, 0, []int64{4, 5}}, {[]int64{7, 7, 0, 0, 0, 8}, 2, 3, []int64{0, 1, 3, 4}},
		{list(8, int64(1)), 3, 0, nil}, {list(8, int64(0)), 2, 0, []int64{0, 1, 2, 3}},
	} {
		got, ok := impl.ZeroTrees(c.list, c.levels, c.plane)
		checkIntegers(t, fmt.Sprint("ZeroTrees of ", c.list, c.levels, c.plane), got, ok, c.want)
	}
}

func TestPromise7ZeroTrees(t *testing.T) {
	r := rand.New(rand.NewPCG(11, 6))
	for n := 1; n <= 128; n += 1 + n/6 {
		for levels := int64(1); levels <= 6; levels++ {
			for _, x := range manyIntegers(r, n) {
				for _, plane := range []int64{0, 1, 2, r.Int64N(20), 24} {
					got, ok := impl.ZeroTrees(x, levels, plane)
					checkIntegers(t, fmt.Sprint("ZeroTrees of ", x, levels, plane), got, ok, toldZeroTrees(x, levels, plane))
					checkAllZeros(t, x, levels, plane, got)
				}
			}
		}
	}
}

// checkAllZeros checks that trees have each index whose tree has only zeros, once.
func checkAllZeros(t *testing.T, x []int64, levels, plane int64, roots []int64) {
	t.Helper()
	all, want := []int64{}, []int64{}
	for _, root := range roots {
		tree, _ := impl.TreeOf(int64(len(x)), levels, root)
		all = append(all, tree...)
	}
	for i := range x {
		tree, _ := impl.TreeOf(int64(len(x)), levels, int64(i))
		if !slices.ContainsFunc(tree, func(j int64) bool { return x[j]/(1<<plane) != 0 }) {
			want = append(want, int64(i))
		}
	}
	slices.Sort(all)
	checkIntegers(t, fmt.Sprint("the trees of zeros of ", x, levels, plane), all, true, want)
}

func TestPromise7ZeroTreesThatThereAreNot(t *testing.T) {
	check := func(x []int64, levels, plane int64) {
		t.Helper()
		got, ok := impl.ZeroTrees(x, levels, plane)
		checkNone(t, fmt.Sprint("ZeroTrees of ", x, levels, plane), ok, got)
	}
	for _, x := range wrongIntegers() {
		check(x, 2, 0)
	}
	for _, levels := range []int64{0, -1, 7, 64, math.MinInt64, math.MaxInt64} {
		check([]int64{0, 0, 0}, levels, 0)
	}
	for _, plane := range []int64{-1, 25, 64, 1 << 32, math.MinInt64, math.MaxInt64} {
		check([]int64{0, 0, 0}, 1, plane)
	}
}
