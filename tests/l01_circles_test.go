package tests

import (
	"fmt"
	"math"
	"testing"

	"loop.example/g01317/impl"
)

func TestPromise2Sines(t *testing.T) {
	cases := []struct{ x, want uint32 }{
		{0x00000000, 0x00000000}, {0x80000000, 0x80000000}, // zeros keep their signs
		{0x3e800000, 0x3f800000}, {0xbe800000, 0xbf800000}, // a quarter
		{0x3f000000, 0x80000000}, {0xbf000000, 0x80000000}, // half a turn: a zero with its sign turned
		{0x3f800000, 0x00000000}, {0xbf800000, 0x00000000}, {0xc0000000, 0x00000000}, // whole turns
		{0x3f400000, 0xbf800000}, {0x40100000, 0x3f800000},
		{0x3dcccccd, 0x3f167918}, {0x3e4ccccd, 0x3f737871}, {0x3e99999a, 0x3f737870}, {0x3ecccccd, 0x3f167918},
		{0x3f19999a, 0xbf16791a}, {0x3f333333, 0xbf737870}, {0x3f666666, 0xbf16791a},
		{0xbdcccccd, 0xbf167918}, {0xbe99999a, 0xbf737870}, {0xbf666666, 0x3f16791a},
		{0x3f900000, 0x3f3504f3}, {0xc0ec0000, 0xbf3504f3},
		{0x3e7fffff, 0x3f800000}, {0x3e800001, 0x3f800000}, {0x3effffff, 0x34490fdb}, {0x3f000001, 0xb4c90fdb},
		{0x00000001, 0x00000006}, {0x007fffff, 0x01c90fd9}, {0x1e3ce508, 0x1f945b86},
		{0x80000001, 0x80000000}, {0x807fffff, 0x80000000}, {0x9e3ce508, 0x80000000}, // 1, less next to nothing, is 1
		{0x42c8999a, 0x3f73780d}, {0x47f12064, 0xbf7b14be}, {0xcaffffff, 0x80000000},
		{0x58635fa9, 0x00000000}, {0x597fffff, 0x00000000}, {0x59800000, 0x00000000}, {0xd9800000, 0x00000000},
		{0x7f7fffff, 0x00000000}, {0xff7fffff, 0x00000000},
		// What another number of steps, or one that is not rounded on its own, would change.
		{0x3d7d7f58, 0x3ec21dd8}, {0x3e434f37, 0x3f6e7421}, {0x3e787958, 0x3f7fba23}, {0x3f3c1f30, 0xbf7ed758},
		{0x3e915212, 0x3f7a3d1c}, {0x3edce4bc, 0x3ed5d1f6}, {0x3ee328a2, 0x3eb1748a},
		{infinityBits, notANumberBits}, {0xff800000, notANumberBits}, {notANumberBits, notANumberBits},
	}
	for _, c := range cases {
		checkNumber(t, fmt.Sprintf("SineTurns of %08x", c.x), impl.SineTurns(number(c.x)), c.want)
	}
}

func TestPromise2Phasors(t *testing.T) {
	cases := []struct {
		turns  float64
		re, im uint32
	}{
		{0, 0x3f800000, 0x00000000}, {math.Copysign(0, -1), 0x3f800000, 0x80000000},
		{0.25, 0x00000000, 0x3f800000}, {0.5, 0xbf800000, 0x00000000}, {0.75, 0x00000000, 0xbf800000}, {1, 0x3f800000, 0x00000000},
		{-0.25, 0x00000000, 0xbf800000}, {-0.5, 0xbf800000, 0x00000000}, {-0.75, 0x00000000, 0x3f800000}, {-1, 0x3f800000, 0x00000000},
		{0.125, 0x3f3504f3, 0x3f3504f3}, {0.375, 0xbf3504f3, 0x3f3504f3}, {-0.125, 0x3f3504f3, 0xbf3504f3}, {-7.375, 0xbf3504f3, 0xbf3504f3},
		{0x1.999999999999ap-4, 0x3f4f1bbd, 0x3f167918}, {0x1.3333333333333p-2, 0xbe9e377a, 0x3f737871},
		{0x1.3333333333333p-1, 0xbf4f1bbd, 0xbf167918}, {0x1.ccccccccccccdp-1, 0x3f4f1bbd, 0xbf167918},
		{-0x1p-53, 0x3f800000, 0xa6490fdb}, {-0x1p-54, 0x3f800000, 0x00000000}, {-0x1p-1074, 0x3f800000, 0x00000000}, // rounded to 1
		{0x1p-1074, 0x3f800000, 0x00000000}, {0x1.fffffffffffffp-1, 0x3f800000, 0xa6490fdb},
		{0x1.fffffffffffffp-3, 0x25490fdb, 0x3f800000}, {0x1.0000000000001p-2, 0xa5c90fdb, 0x3f800000},
		{0x1.4p40, 0x3f800000, 0x00000000}, {0x1.fffffffffffffp51, 0xbf800000, 0x00000000}, {-0x1.fffffffffffffp51, 0xbf800000, 0x00000000},
		{0x1p52, 0x3f800000, 0x00000000}, {-0x1p52, 0x3f800000, 0x00000000}, {-1e300, 0x3f800000, 0x00000000},
		{math.Inf(1), notANumberBits, notANumberBits}, {math.Inf(-1), notANumberBits, notANumberBits}, {math.NaN(), notANumberBits, notANumberBits},
	}
	for _, c := range cases {
		checkComplex(t, fmt.Sprint("PhasorOf ", c.turns), impl.PhasorOf(c.turns), c.re, c.im)
	}
}

func TestPromise2PhasorsAreNearTheCircle(t *testing.T) {
	for i := -3000; i <= 3000; i++ {
		turns := float64(i) / 997
		got := impl.PhasorOf(turns)
		sine, cosine := math.Sincos(2 * math.Pi * turns)
		if math.Abs(float64(real(got))-cosine) > 1e-7 || math.Abs(float64(imag(got))-sine) > 1e-7 {
			t.Fatalf("PhasorOf %v: got %v", turns, got)
		}
	}
}

func TestPromise2Angles(t *testing.T) {
	cases := []struct{ y, x, want uint32 }{
		{0x00000000, 0x3f800000, 0x00000000}, {0x80000000, 0x3f800000, 0x00000000}, // -0 is not less than 0
		{0x00000000, 0xbf800000, 0x3f000000}, {0x80000000, 0xbf800000, 0x3f000000},
		{0x3f800000, 0x00000000, 0x3e800000}, {0x3f800000, 0x80000000, 0x3e800000},
		{0xbf800000, 0x00000000, 0xbe800000}, {0xbf800000, 0x80000000, 0xbe800000},
		{0x00000000, 0x00000000, 0x00000000}, {0x80000000, 0x00000000, 0x00000000},
		{0x00000000, 0x80000000, 0x00000000}, {0x80000000, 0x80000000, 0x00000000},
		{0x3f800000, 0x3f800000, 0x3e000000}, {0x3f800000, 0xbf800000, 0x3ec00000},
		{0xbf800000, 0x3f800000, 0xbe000000}, {0xbf800000, 0xbf800000, 0xbec00000},
		{0x3f800000, 0x40000000, 0x3d972029}, {0x40000000, 0x3f800000, 0x3e346fec}, {0xc0400000, 0x40800000, 0xbdd1bfae},
		{0x40800000, 0xc0400000, 0x3eb46fec}, {0xc0a00000, 0xc1400000, 0xbedfd45c}, {0x3f800000, 0x3f800001, 0x3dffffff},
		{0x3f800000, 0x0da24260, 0x3e800000}, {0x3e99999a, 0x3f333333, 0x3d83f966},
		{0x00000001, 0x7f61b1e6, 0x00000000}, {0x80000001, 0x7f61b1e6, 0x80000000}, {0x80000001, 0xff61b1e6, 0xbf000000},
		{0x00000001, 0x00000001, 0x3e000000}, {0x80000001, 0x00000001, 0xbe000000},
		{0x7f7fffff, 0x7f7fffff, 0x3e000000}, {0x7f7fffff, 0x80000001, 0x3e800000},
		// What another number of steps, or one that is not rounded on its own, would change.
		{0xbd35a67e, 0x3cdb6711, 0xbe2774ff}, {0x3c8924c2, 0xbea273e3, 0x3efbb459}, {0x3d5d06d5, 0x3c896da5, 0x3e4ee08d},
		{0xbd94fe39, 0xbcbdc840, 0xbe991f21},
		{infinityBits, 0x3f800000, notANumberBits}, {0x3f800000, 0xff800000, notANumberBits}, {infinityBits, infinityBits, notANumberBits},
		{notANumberBits, 0x00000000, notANumberBits}, {0x00000000, notANumberBits, notANumberBits},
	}
	for _, c := range cases {
		y, x := number(c.y), number(c.x)
		checkNumber(t, fmt.Sprintf("AngleTurns of %08x and %08x", c.y, c.x), impl.AngleTurns(y, x), c.want)
		checkNumber(t, fmt.Sprintf("AngleOf %08x and %08x i", c.x, c.y), impl.AngleOf(complex(x, y)), c.want)
	}
}

func TestPromise2AnglesOfPhasors(t *testing.T) {
	for i := -499; i < 500; i++ {
		turns := float64(i) / 1000
		got := impl.AngleOf(impl.PhasorOf(turns))
		if math.Abs(float64(got)-turns) > 1e-7 {
			t.Fatalf("the angle of the phasor of %v turns: got %v", turns, got)
		}
	}
}

func TestPromise2Tenths(t *testing.T) {
	cases := []struct {
		x    uint32
		want int64
	}{
		{0x3f800000, 0}, {0x41200000, 100}, {0x42c80000, 200}, {0x3dcccccd, -100}, {0x40000000, 30}, {0x3f000000, -30}, {0x3c23d70a, -200},
		{0x3fc00000, 18}, {0x3f400000, -12}, {0x3fbfffff, 18}, {0x3f3ffffe, -12}, {0x40400000, 48}, {0x40a00000, 70}, {0x40e9999a, 86},
		{0x3f817b70, 1}, {0x3f817b6f, 0}, {0x3f809741, 0}, {0x3f7d11d0, -1}, {0x3f7d11d1, 0},
		{0x00000e22, -4130}, {0x106a7484, -2833}, {0x460cded9, 396}, {0x6f0eadc2, 2864}, // with a logarithm that is not narrowed
		{0x00000001, -4485}, {0x00800000, -3793}, {0x7f7fffff, 3853},
	}
	for _, c := range cases {
		if got, ok := impl.TenthsOf(number(c.x)); !ok || got != c.want {
			t.Errorf("TenthsOf %08x: got %d, %v, want %d", c.x, got, ok, c.want)
		}
	}
	for _, n := range []uint32{0, minusZeroBits, 0x80000001, 0xbf800000, infinityBits, 0xff800000, notANumberBits} {
		if got, ok := impl.TenthsOf(number(n)); ok || got != 0 {
			t.Errorf("TenthsOf %08x: got %d, %v, want a failure", n, got, ok)
		}
	}
}

func TestPromise2Logarithms(t *testing.T) {
	cases := []struct{ x, want uint32 }{
		{0x3f800000, 0x00000000}, {0x40000000, 0x3f317218}, {0x3f000000, 0xbf317218}, {0x402df854, 0x3f7fffff},
		{0x41200000, 0x40135d8e}, {0x3dcccccd, 0xc0135d8e}, {0x3fc00000, 0x3ecf991f}, {0x3f400000, 0xbe934b11},
		{0x3fbfffff, 0x3ecf991d}, {0x3f3ffffe, 0xbe934b16}, {0x3f800001, 0x33ffffff}, {0x3f7fffff, 0xb3800000},
		{0x40a00000, 0x3fce0210}, {0x42f6e979, 0x409a1bba}, {0x00000001, 0xc2ce8ed0}, {0x007fffff, 0xc2aeac50},
		{0x00800000, 0xc2aeac50}, {0x7f7fffff, 0x42b17218},
		// What another number of steps, or one that is not rounded on its own, would change.
		{0x3c413d3a, 0xc08e158f}, {0x41178feb, 0x400fe5e7}, {0x4c5d65a5, 0x418f034a}, {0x111c87f8, 0xc28085df},
		{0x1a8446cb, 0xc24d0a45}, {0x38dcbe38, 0xc1128ba4}, {0x29fd22f8, 0xc1ee8859}, {0x3f7e3888, 0xbbe48788},
		{0x3f7fea71, 0xb9ac7f43}, {0x400e652b, 0x3f4cbaa8}, {0x4384c0a5, 0x40b29cbf}, {0x490eacdb, 0x41547412},
		{0x00000000, 0xff800000}, {0x80000000, 0xff800000}, {0xbf800000, notANumberBits}, {0x80000001, notANumberBits},
		{infinityBits, infinityBits}, {0xff800000, notANumberBits}, {notANumberBits, notANumberBits},
	}
	for _, c := range cases {
		checkNumber(t, fmt.Sprintf("LogNumber of %08x", c.x), impl.LogNumber(number(c.x)), c.want)
	}
}

func TestPromise2Exponentials(t *testing.T) {
	cases := []struct{ x, want uint32 }{
		{0x00000000, 0x3f800000}, {0x80000000, 0x3f800000}, {0x00000001, 0x3f800000}, {0x80000001, 0x3f800000},
		{0x3f800000, 0x402df854}, {0xbf800000, 0x3ebc5ab2}, {0x3f000000, 0x3fd3094c}, {0x40000000, 0x40ec7326},
		{0x41200000, 0x46ac14ee}, {0xc1200000, 0x383e6bce}, {0x40533333, 0x41d8e6af}, {0xc0f66666, 0x39ed6972},
		{0x42480000, 0x638c881f}, {0xc2480000, 0x1b692beb}, {0x42b17217, 0x7f7fff84}, {0x42b17218, infinityBits},
		{0xc2aeac50, 0x007fffe6}, {0xc2aecccd, 0x00782140}, {0xc2ce0000, 0x00000001}, {0xc2cfcccd, 0x00000001}, {0xc2d00000, 0x00000000},
		// What another number of steps, or one that is not rounded on its own, would change.
		{0x4286088f, 0x6fcdbda3}, {0x429e2576, 0x78872785}, {0x42a9b31c, 0x7caa5b70}, {0x337ffff8, 0x3f800001},
		{0x367bffe1, 0x3f80001f}, {0x3c5dc4c8, 0x3f81be8d}, {0x3f5bc24c, 0x4017016c}, {0xc2ac0052, 0x01736c63},
		{0x4288942b, 0x70b7a4c5}, {0x42a63857, 0x7b6f42ca}, {0xc2910cef, 0x0b253602}, {0xc29749e5, 0x08e9aaa0},
		{0xc294b03a, 0x09d6605b}, {0xc2a692a3, 0x03659f84}, {0xb3000001, 0x3f800000}, {0xbf81eadf, 0x3eb98dc0},
		{0x43480000, infinityBits}, {0x43480001, infinityBits}, {0xc3480000, 0x00000000}, {0xc3480001, 0x00000000},
		{infinityBits, infinityBits}, {0xff800000, 0x00000000}, {notANumberBits, notANumberBits},
	}
	for _, c := range cases {
		checkNumber(t, fmt.Sprintf("ExpNumber of %08x", c.x), impl.ExpNumber(number(c.x)), c.want)
	}
}
