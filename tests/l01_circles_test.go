package tests

import (
	"fmt"
	"math"
	"testing"

	"loop.example/g01226/impl"
)

func TestSineTurns(t *testing.T) {
	none := uint32(0x7fc00000)
	for _, c := range []struct{ x, want uint32 }{
		{0x00000000, 0x00000000}, // 0
		{0x80000000, 0x80000000}, // -0
		{0x3e800000, 0x3f800000}, // 0.25
		{0x3f000000, 0x80000000}, // 0.5: its sign is turned in the end
		{0x3f400000, 0xbf800000}, // 0.75
		{0x3f800000, 0x00000000}, // 1
		{0xbf800000, 0x00000000}, // -1
		{0xbe800000, 0xbf800000}, // -0.25
		{0xbf000000, 0x80000000}, // -0.5
		{0x3e000000, 0x3f3504f3}, // 0.125
		{0x3e0fc219, 0x3f45a645}, // 0.140388861
		{0x3e434f37, 0x3f6e7421}, // 0.190731868
		{0x3e5d0d36, 0x3f7a22f0}, // 0.215870708
		{0x3e000042, 0x3f35053d}, // 0.125000983
		{0xbe5d23f5, 0xbf7a2a88}, // -0.215957478
		{0x3dcccccd, 0x3f167918}, // 0.100000001
		{0xbdcccccd, 0xbf167918}, // -0.100000001
		{0x3e99999a, 0x3f737870}, // 0.300000012
		{0x3ee66666, 0x3e9e377c}, // 0.449999988
		{0x3f333333, 0xbf737870}, // 0.699999988
		{0xbf333333, 0x3f737870}, // -0.699999988
		{0x3f666666, 0xbf16791a}, // 0.899999976
		{0x3f99999a, 0x3f737872}, // 1.20000005
		{0xc059999a, 0xbf167910}, // -3.4000001
		{0x447a0800, 0x3f3504f3}, // 1000.125
		{0x47f1205a, 0xbf74fa0b}, // 123456.703
		{0x0da24260, 0x0efee054}, // 1e-30
		{0x8da24260, 0x80000000}, // -1e-30: its f is rounded to 1
		{0x3effffff, 0x34490fdb}, // 0.49999997
		{0x3f000001, 0xb4c90fdb}, // 0.50000006
		{0xaedbe6ff, 0xb02cb5fd}, // -1.00000001e-10
		{0x00000001, 0x00000006}, // the least subnormal number
		{0x597fffff, 0x00000000}, // below 2 to the power of 52
		{0x59800000, 0x00000000}, // 2 to the power of 52
		{0xd9800000, 0x00000000}, // its opposite
		{0x7f7fffff, 0x00000000},
		{0xff7fffff, 0x00000000},
		{0x7f800000, none},
		{0xff800000, none},
		{0x7f800001, none},
		{0xffc00000, none},
	} {
		wantNumber(t, fmt.Sprintf("SineTurns of %v (%08x)", fromBits(c.x), c.x), impl.SineTurns(fromBits(c.x)), fromBits(c.want))
	}
}

func TestSinesAreSinesNearly(t *testing.T) {
	for k := -4000; k <= 4000; k++ {
		x := float32(k) / 997
		want := math.Sin(2 * math.Pi * float64(x))
		if got := float64(impl.SineTurns(x)); math.Abs(got-want) > 1e-7 {
			t.Errorf("SineTurns(%v): got %v, want nearly %v", x, got, want)
		}
	}
}

func TestPhasorOf(t *testing.T) {
	none := uint32(0x7fc00000)
	for _, c := range []struct {
		turns  float64
		re, im uint32
	}{
		{0, 0x3f800000, 0},
		{math.Copysign(0, -1), 0x3f800000, 0x80000000},
		{0.125, 0x3f3504f3, 0x3f3504f3},
		{0.25, 0, 0x3f800000},
		{0.5, 0xbf800000, 0},
		{0.75, 0, 0xbf800000},
		{1, 0x3f800000, 0},
		{-1, 0x3f800000, 0},
		{-0.25, 0, 0xbf800000},
		{-0.5, 0xbf800000, 0},
		{7.25, 0, 0x3f800000},
		{0x1.d91e65925b8f6p-2, 0xbf78bfc8, 0x3e71fcc1},
		{0x1.6ff96b7c95800p-8, 0x3f7fd739, 0x3d107923},
		{0x1.ec5d74feb0950p-1, 0x3f789aac, 0xbe745bf1},
		{0x1.226bdeb14e5a0p-4, 0x3f67035c, 0x3edca037},
		{0.1, 0x3f4f1bbd, 0x3f167918},
		{0.3, 0xbe9e377a, 0x3f737871},
		{-0.1, 0x3f4f1bbd, 0xbf167918},
		{-0.3, 0xbe9e377a, 0xbf737871},
		{0.6, 0xbf4f1bbd, 0xbf167918},
		{0.95, 0x3f737871, 0xbe9e377a},
		{1.125, 0x3f3504f3, 0x3f3504f3},
		{-2.625, 0xbf3504f3, 0x3f3504f3},
		{1000.3, 0xbe9e377a, 0x3f737871},
		{1e-300, 0x3f800000, 0},
		{-1e-300, 0x3f800000, 0}, // four quarters
		{5e-324, 0x3f800000, 0},
		{-5e-324, 0x3f800000, 0},
		{0x1p51 + 0.5, 0xbf800000, 0},
		{-0x1p51 - 0.5, 0xbf800000, 0},
		{0x1p52 - 0.5, 0xbf800000, 0},
		{0x1p52, 0x3f800000, 0},
		{-0x1p52, 0x3f800000, 0},
		{-0x1p52 + 0.5, 0xbf800000, 0},
		{1e300, 0x3f800000, 0},
		{math.Inf(1), none, none},
		{math.Inf(-1), none, none},
		{math.NaN(), none, none},
	} {
		wantComplex(t, fmt.Sprintf("PhasorOf(%v)", c.turns), impl.PhasorOf(c.turns), complex(fromBits(c.re), fromBits(c.im)))
	}
}

func TestPhasorsAreOnTheCircle(t *testing.T) {
	for k := -2000; k <= 2000; k++ {
		turns := float64(k) / 997
		p := impl.PhasorOf(turns)
		im, re := math.Sincos(2 * math.Pi * turns)
		if math.Abs(float64(real(p))-re) > 1e-7 || math.Abs(float64(imag(p))-im) > 1e-7 {
			t.Errorf("PhasorOf(%v): got %v, want nearly %v and %v", turns, p, re, im)
		}
		if math.Abs(float64(impl.LongOf(p))-1) > 2e-7 {
			t.Errorf("PhasorOf(%v) has the length %v", turns, impl.LongOf(p))
		}
	}
}

func angleCases() []struct{ y, x, want uint32 } {
	none, one, minusOne, minus := uint32(0x7fc00000), uint32(0x3f800000), uint32(0xbf800000), uint32(0x80000000)
	return []struct{ y, x, want uint32 }{
		{0, 0, 0}, {minus, 0, 0}, {0, minus, 0}, {minus, minus, 0},
		{0, one, 0}, {minus, one, 0},
		{0, minusOne, 0x3f000000}, {minus, minusOne, 0x3f000000},
		{one, 0, 0x3e800000}, {one, minus, 0x3e800000},
		{minusOne, 0, 0xbe800000}, {minusOne, minus, 0xbe800000},
		{one, one, 0x3e000000}, {one, minusOne, 0x3ec00000},
		{minusOne, minusOne, 0xbec00000}, {minusOne, one, 0xbe000000},
		{0x00000001, minusOne, 0x3f000000}, {0x80000001, minusOne, 0xbf000000},
		{0x00000001, one, 0}, {0x80000001, one, minus},
		{0x00000001, 0x00000001, 0x3e000000},
		{0x7f7fffff, 0x7f7fffff, 0x3e000000},
		{0x00000001, 0x7f7fffff, 0}, {0x80000001, 0x7f7fffff, minus},
		{0xbf43c31f, 0x3f45df65, 0xbdfe40a2},
		{0x3f7bcbd8, 0x3f7814c2, 0x3e013613},
		// With fewer terms, these have other last bits.
		{0x3f75cdbb, 0x3f76ac96, 0x3dff6c80},
		{0x3f4edc5d, 0x3f4e7d47, 0x3e00257d},
		{0x3f000000, 0x40000000, 0x3d1fb386}, // 0.5, 2
		{0x40000000, 0x3f000000, 0x3e58131f}, // 2, 0.5
		{0xc0400000, 0x40e00000, 0xbd83f965}, // -3, 7
		{0x40e00000, 0xc0400000, 0x3ea0fe59}, // 7, -3
		{0xc0e00000, 0xc0400000, 0xbea0fe59}, // -7, -3
		{0xc0400000, 0xc0e00000, 0xbedf01a7}, // -3, -7
		{0x0da24260, 0x40400000, 0x0b89bade}, // 1e-30, 3
		{0x7f61b1e6, 0x800116c2, 0x3e800000}, // 3e+38, -1e-40
		{0x000116c2, 0x000053a1, 0x3e507fc4}, // 1e-40, 3e-41
		{0x3f7fbe77, 0x3f800000, 0x3dffd642}, // 0.999, 1
		{0x006ce3ee, 0xff61b1e6, 0x3f000000}, // 1e-38, -3e+38
		{0x7f800000, one, none}, {one, 0x7f800000, none},
		{0xff800000, 0, none}, {0, 0xff800000, none},
		{0x7f800000, 0x7f800000, none},
		{0x7fc00000, one, none}, {one, 0x7fc00000, none},
		{0x7f800001, 0, none}, {0, 0xffffffff, none},
	}
}

func TestAngles(t *testing.T) {
	for _, c := range angleCases() {
		y, x, want := fromBits(c.y), fromBits(c.x), fromBits(c.want)
		wantNumber(t, fmt.Sprintf("AngleTurns(%v, %v)", y, x), impl.AngleTurns(y, x), want)
		wantNumber(t, fmt.Sprintf("AngleOf(%v + %v i)", x, y), impl.AngleOf(complex(x, y)), want)
	}
}

func TestAnglesAreAnglesNearly(t *testing.T) {
	for k := -500; k <= 500; k++ {
		turns := float64(k) / 1001
		p := impl.PhasorOf(turns)
		if got := float64(impl.AngleOf(p)); math.Abs(got-turns) > 1e-7 {
			t.Errorf("angle of %v: got %v, want nearly %v", p, got, turns)
		}
		want := math.Atan2(float64(imag(p)), float64(real(p))) / (2 * math.Pi)
		if got := float64(impl.AngleTurns(imag(p), real(p))); math.Abs(got-want) > 4e-8 {
			t.Errorf("angle of %v: got %v, want nearly %v", p, got, want)
		}
	}
}

func TestPhasorOfAQuarterHasItsAngle(t *testing.T) {
	wantNumber(t, "angle of the phasor of 0.25", impl.AngleOf(impl.PhasorOf(0.25)), 0.25)
}

func TestTenthsOf(t *testing.T) {
	for _, c := range []struct {
		power uint32
		want  int64
	}{
		{0x3f800000, 0},    // 1
		{0x40000000, 30},   // 2
		{0x3f000000, -30},  // 0.5
		{0x40400000, 48},   // 3
		{0x3e99999a, -52},  // 0.3
		{0x41200000, 100},  // 10
		{0x3dcccccd, -100}, // 0.1
		{0x447a0000, 300},  // 1000
		{0x3a83126f, -300}, // 0.001
		{0x3fc00000, 18},   // 1.5
		{0x3fbfffff, 18},
		{0x3f400000, -12}, // 0.75
		{0x3f3fffff, -12},
		{0x7149f2ca, 3000},  // 1e30
		{0x000116c2, -4000}, // 1e-40, a subnormal number
		{0x00000001, -4485}, // the least number
		{0x00000002, -4455},
		{0x007fffff, -3793},
		{0x00800000, -3793},
		{0x7f7fffff, 3853}, // the greatest number
		{0x5bb7e0d1, 1702},
		{0x283a7982, -1398},
		// Between two of these numbers, the tenths change.
		{0x3f66cd5d, -5}, {0x3f66cd5e, -4},
		{0x3f6c2da4, -4}, {0x3f6c2da5, -3},
		{0x3f7d11d0, -1}, {0x3f7d11d1, 0},
		{0x3f817b6f, 0}, {0x3f817b70, 1},
		{0x3f8abe1d, 3}, {0x3f8abe1e, 4},
	} {
		n, ok := impl.TenthsOf(fromBits(c.power))
		wantEqual(t, fmt.Sprintf("TenthsOf(%v)", fromBits(c.power)), n, c.want)
		wantEqual(t, fmt.Sprintf("TenthsOf(%v) succeeds", fromBits(c.power)), ok, true)
	}
}

func TestTenthsOfNoPower(t *testing.T) {
	for _, x := range []float32{0, minusZero(), -1, -fromBits(1), -math.MaxFloat32, infinity(), -infinity(), notANumber()} {
		n, ok := impl.TenthsOf(x)
		wantEqual(t, fmt.Sprintf("TenthsOf(%v)", x), n, 0)
		wantEqual(t, fmt.Sprintf("TenthsOf(%v) succeeds", x), ok, false)
	}
}

func TestTenthsAreTenthsOfDecibels(t *testing.T) {
	for b := uint32(1); b < 0x7f800000; b += 1000003 {
		n, _ := impl.TenthsOf(fromBits(b))
		want := 100 * math.Log10(float64(fromBits(b)))
		if math.Abs(float64(n)-want) > 0.5+1e-6 {
			t.Errorf("TenthsOf(%v): got %d, want nearly %v", fromBits(b), n, want)
		}
	}
}
