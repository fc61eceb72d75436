package tests

import (
	"fmt"
	"math"
	"math/rand/v2"
	"strings"
	"testing"

	"loop.example/g01317/impl"
)

func oddCodes() []impl.Coded {
	return append(wrongCodes(), codedOf(2, 2, "100111"), codedOf(2, 2, "1001"), codedOf(1, 0, "10"), codedOf(128, 24, strings.Repeat("1", 7000)), codedOf(1, 24, strings.Repeat("1", 25)), impl.Coded{Count: 128, Top: 24, Bits: list(32768, true)}, impl.Coded{Count: math.MaxInt64, Top: math.MaxInt64, Bits: list(40000, true)})
}

func oddBitLists() [][]bool {
	all := [][]bool{nil, {}, {true}, {false}, {true, false}, bitsOfText("1110010")}
	for _, count := range []int{21, 128, 2688, 32767, 32768, 32769, 100000} {
		all = append(all, list(count, true), list(count, false))
	}
	return all
}

func TestPromise1EveryCodeReturns(t *testing.T) {
	for _, c := range oddCodes() {
		callTwice(t, fmt.Sprint("a function of a code ", c.Count, c.Top, len(c.Bits)), func() string {
			x, one := impl.ListFrom(c)
			return seen(impl.ValidCoded(c), impl.SameCoded(c, c), impl.SameCoded(c, impl.Coded{}), x, one)
		})
		for _, n := range oddIntegers() {
			callTwice(t, fmt.Sprint("CutCoded of ", c.Count, c.Top, len(c.Bits), n), func() string {
				cut, one := impl.CutCoded(c, n)
				other, two := impl.CutCoded(impl.Coded{Count: n, Top: 3, Bits: c.Bits}, 1)
				third, three := impl.CutCoded(impl.Coded{Count: 3, Top: n, Bits: c.Bits}, 1)
				x, four := impl.ListFrom(impl.Coded{Count: n, Top: 3, Bits: c.Bits})
				y, five := impl.ListFrom(impl.Coded{Count: 3, Top: n, Bits: c.Bits})
				return seen(codedSeen(cut), one, codedSeen(other), two, codedSeen(third), three, x, four, y, five)
			})
		}
	}
}

func TestPromise1EveryListOfCodesReturns(t *testing.T) {
	for _, x := range oddIntegerLists() {
		callTwice(t, fmt.Sprint("a function of ", len(x), " integers"), func() string {
			planes, one := impl.PlanesFor(x)
			coded, two := impl.CodeList(x)
			best, least, three := impl.BestRice(x)
			entropy, four := impl.EntropyOf(x)
			return seen(planes, one, codedSeen(coded), two, best, least, three, entropy, four)
		})
		for _, n := range append(oddIntegers(), 19, 20, 21, 23, 24, 25, 63) {
			callTwice(t, fmt.Sprint("a function of ", len(x), " integers and of ", n), func() string {
				plane, one := impl.PlaneOf(x, n)
				until, two := impl.BitsUntil(x, n)
				roots, three := impl.ZeroTrees(x, n, 0)
				other, four := impl.ZeroTrees(x, 3, n)
				long, five := impl.RiceLong(x, n)
				bits, six := impl.RiceCode(x, n)
				return seen(plane, one, until, two, roots, three, other, four, long, five, bits, six)
			})
		}
		for _, bits := range oddBits() {
			callTwice(t, fmt.Sprintf("a function of %d integers and of %08x", len(x), bits), func() string {
				told, one := impl.ListOfScale(x, number(bits), 0.5)
				other, two := impl.ListOfScale(x, 1, number(bits))
				hull, three := impl.HullOf(x, list(len(x), number(bits)))
				last, four := impl.LastOfHull(x, list(len(x), number(bits)))
				return seen(told, one, other, two, hull, three, last, four)
			})
		}
	}
}

func TestPromise1EveryIndexOfTreesReturns(t *testing.T) {
	for _, n := range oddIntegers() {
		callTwice(t, fmt.Sprint("a function of ", n), func() string {
			z, one := impl.ZigZag(n)
			back, two := impl.FromZigZag(n)
			return seen(z, one, back, two)
		})
		for _, m := range oddIntegers() {
			callTwice(t, fmt.Sprint("a function of ", n, " and ", m), func() string {
				first, one := impl.ParentOf(n, m, 0)
				second, two := impl.ParentOf(n, 3, m)
				third, three := impl.ParentOf(128, n, m)
				tree, four := impl.TreeOf(n, m, 0)
				other, five := impl.TreeOf(n, 3, m)
				last, six := impl.TreeOf(128, n, m)
				return seen(first, one, second, two, third, three, tree, four, other, five, last, six)
			})
		}
	}
}

func TestPromise1EveryStreamReturns(t *testing.T) {
	for _, bits := range oddBitLists() {
		callTwice(t, fmt.Sprint("BitText of ", len(bits), " bits"), func() string {
			text, ok := impl.BitText(bits)
			return seen(text, ok)
		})
		for _, n := range append(oddIntegers(), 20, 21, 63) {
			callTwice(t, fmt.Sprint("FromRice of ", len(bits), " bits and ", n), func() string {
				x, one := impl.FromRice(bits, n, 0)
				y, two := impl.FromRice(bits, n, 20)
				z, three := impl.FromRice(bits, 1, n)
				return seen(x, one, y, two, z, three)
			})
		}
	}
	for _, text := range append(oddTexts(), "1", "01", strings.Repeat("1", 32768), strings.Repeat("1", 32769)) {
		callTwice(t, fmt.Sprintf("ReadBits of %.20q", text), func() string {
			bits, ok := impl.ReadBits(text)
			return seen(bits, ok)
		})
	}
}

func TestPromise1EveryTableReturns(t *testing.T) {
	for _, x := range oddLists() {
		for _, bits := range oddBits() {
			callTwice(t, fmt.Sprintf("a function of %d numbers and of %08x", len(x), bits), func() string {
				integers, one := impl.ScaleList(x, number(bits))
				counts, misses, two := impl.RateTable(impl.LinesScheme(), x, 2, number(bits))
				return seen(integers, one, counts, misses, two)
			})
		}
		for _, n := range oddIntegers() {
			callTwice(t, fmt.Sprint("a table of ", len(x), " numbers and ", n), func() string {
				counts, misses, one := impl.RateTable(impl.NineScheme(), x, n, 0.25)
				hull, two := impl.HullOf(list(len(x), n), x)
				other, three := impl.HullOf(indexList(int64(len(x))), x)
				last, four := impl.LastOfHull([]int64{0, n}, x)
				return seen(counts, misses, one, hull, two, other, three, last, four)
			})
		}
		for _, s := range oddSchemes() {
			callTwice(t, fmt.Sprint("a table of ", len(x), " numbers and a scheme"), func() string {
				counts, misses, one := impl.RateTable(s, x, 6, 0.25)
				other, far, two := impl.RateTable(s, x, 1, 1e30)
				return seen(counts, misses, one, other, far, two)
			})
		}
	}
}

// Calls at the same time do not disturb each other.
func TestPromise1CodesAtTheSameTime(t *testing.T) {
	r := rand.New(rand.NewPCG(41, 6))
	x, y := manyIntegers(r, 100)[3], lightNumbers(r, 100)
	call := func() string {
		coded, one := impl.CodeList(x)
		back, two := impl.ListFrom(coded)
		entropy, three := impl.EntropyOf(x)
		bits, misses, four := impl.RateTable(impl.NineScheme(), y, 4, 0.01)
		roots, five := impl.ZeroTrees(x, 6, 3)
		return seen(codedSeen(coded), one, back, two, entropy, three, bits, misses, four, roots, five)
	}
	want, calls := call(), make(chan string)
	for range 16 {
		go func() { calls <- call() }()
	}
	for range 16 {
		if got := <-calls; got != want {
			t.Error("functions beside others: ", got, ", want ", want)
		}
	}
}

func TestPromise1ListsOfCodesAreNotModified(t *testing.T) {
	for _, count := range []int{1, 2, 63, 64} {
		x, numbers, bits := integersBehind(count), list(count, float32(2.5)), bitsOfText(strings.Repeat("110", count))
		s, y := impl.Scheme{Weights: list(4, float32(0.75)), Scale: 1.5}, append(indexList(int64(count)), -5)[:count]
		coded, _ := impl.CodeList(x)
		coded.Bits = append(coded.Bits, true, false)[:len(coded.Bits)]
		state := func() string {
			return seen(fmt.Sprint(whole(x), whole(bits), whole(coded.Bits), whole(y), coded.Count, coded.Top), whole(numbers), whole(s.Weights))
		}
		before := state()
		impl.SameCoded(coded, coded)
		impl.PlanesFor(x)
		impl.PlaneOf(x, 1)
		impl.CodeList(x)
		impl.ListFrom(coded)
		impl.CutCoded(coded, 0)
		impl.CutCoded(coded, int64(len(coded.Bits)))
		impl.BitsUntil(x, 1)
		impl.ZeroTrees(x, 3, 2)
		impl.ScaleList(numbers, 0.5)
		impl.ListOfScale(x, 0.5, 0.5)
		impl.RiceLong(x, 2)
		impl.BestRice(x)
		impl.RiceCode(x, 2)
		impl.FromRice(bits, int64(count), 0)
		impl.FromRice(bits, int64(count), 1)
		impl.BitText(bits)
		impl.EntropyOf(x)
		impl.RateTable(s, numbers, 2, 0.5)
		impl.LastOfHull(y, numbers)
		impl.HullOf(y, numbers)
		if state() != before {
			t.Error("arguments have been modified, with the length ", count)
		}
	}
}

// checkBitsApart checks that no two streams share memory, unused capacity included.
func checkBitsApart(t *testing.T, what string, streams ...[]bool) {
	t.Helper()
	for k, x := range streams {
		for j := range streams {
			clear(whole(streams[j]))
		}
		for i := range whole(x) {
			whole(x)[i] = true
		}
		for j, y := range streams {
			for _, bit := range whole(y) {
				if bit != (j == k) {
					t.Error(what, " shares memory with another stream")
					return
				}
			}
		}
	}
}

func TestPromise1ListsOfCodesAreNew(t *testing.T) {
	for _, count := range []int64{1, 2, 3, 20} {
		x := append(indexList(count), -1)
		coded, _ := impl.CodeList(x)
		again, _ := impl.CodeList(x)
		all, _ := impl.CutCoded(coded, int64(len(coded.Bits)))
		some, _ := impl.CutCoded(coded, 1)
		none, _ := impl.CutCoded(coded, 0)
		plane, _ := impl.PlaneOf(x, 0)
		other, _ := impl.PlaneOf(x, 0)
		rice, _ := impl.RiceCode(x, 3)
		same, _ := impl.RiceCode(x, 3)
		read, _ := impl.ReadBits("1011")
		twice, _ := impl.ReadBits("1011")
		back, _ := impl.ListFrom(coded)
		tree, _ := impl.TreeOf(count, 3, 0)
		roots, _ := impl.ZeroTrees(x, 3, 24)
		scaled, _ := impl.ScaleList(list(int(count), float32(3)), 1)
		fromRice, _ := impl.FromRice(rice, count+1, 3)
		bits, misses, _ := impl.RateTable(impl.LinesScheme(), list(int(count), float32(3)), 1, 1)
		hull, _ := impl.HullOf(bits, misses)
		told, _ := impl.ListOfScale(x, 1, 0.5)
		for k, long := range []int{len(back), len(tree), len(roots), len(scaled), len(fromRice), len(bits), len(hull), len(told), len(plane), len(rice), len(read), len(all.Bits), len(some.Bits)} {
			if long == 0 {
				t.Error("a function of codes fails: ", count, k)
			}
		}
		checkBitsApart(t, "a function of codes", coded.Bits, again.Bits, all.Bits, some.Bits, none.Bits, plane, other, rice, same, read, twice)
		checkApart(t, "a function of integers", x, back, tree, roots, scaled, fromRice, bits, hull)
		checkApart(t, "a function of tables", misses, told)
	}
}
