package tests

import (
	"fmt"
	"math"
	"testing"

	"loop.example/g01226/impl"
)

func TestLimits(t *testing.T) {
	wantEqual(t, "MaxNumbers", impl.MaxNumbers, 256)
	wantEqual[int64](t, "MaxValue", impl.MaxValue, 1000000000000000)
	wantEqual(t, "MaxItems", impl.MaxItems, 64)
	wantEqual(t, "CheckSize", impl.CheckSize, 65003)
}

func TestSameNumber(t *testing.T) {
	zero, tiny := float32(0), fromBits(1)
	for _, c := range []struct {
		a, b float32
		want bool
	}{
		{1, 1, true},
		{1, 2, false},
		{1, -1, false},
		{zero, zero, true},
		{minusZero(), minusZero(), true},
		{zero, minusZero(), false},
		{minusZero(), zero, false},
		{tiny, tiny, true},
		{tiny, zero, false},
		{tiny, -tiny, false},
		{tiny, fromBits(2), false},
		{1, fromBits(0x3f800001), false},
		{infinity(), infinity(), true},
		{infinity(), -infinity(), false},
		{infinity(), math.MaxFloat32, false},
		{notANumber(), notANumber(), true},
		{notANumber(), fromBits(0x7f800001), true},
		{fromBits(0x7fc00000), fromBits(0xffffffff), true},
		{notANumber(), 1, false},
		{1, notANumber(), false},
		{zero, notANumber(), false},
		{infinity(), notANumber(), false},
	} {
		wantEqual(t, fmt.Sprintf("SameNumber(%v, %v)", c.a, c.b), impl.SameNumber(c.a, c.b), c.want)
	}
}

func TestSameNumberIsToldByBits(t *testing.T) {
	for _, a := range oddNumbers() {
		for _, b := range oddNumbers() {
			wantEqual(t, fmt.Sprintf("SameNumber(%v, %v)", a, b), impl.SameNumber(a, b), sameBits(a, b))
			wantEqual(t, fmt.Sprintf("equal BitsOf of %v, %v", a, b), impl.BitsOf(a) == impl.BitsOf(b), sameBits(a, b))
		}
	}
}

func TestSameComplex(t *testing.T) {
	for _, c := range []struct {
		a, b complex64
		want bool
	}{
		{complex(1, 2), complex(1, 2), true},
		{complex(1, 2), complex(2, 1), false},
		{complex(1, 2), complex(1, 3), false},
		{complex(1, 2), complex(3, 2), false},
		{0, complex(0, minusZero()), false},
		{0, complex(minusZero(), 0), false},
		{complex(minusZero(), 0), complex(minusZero(), 0), true},
		{complex(notANumber(), 1), complex(fromBits(0x7f800001), 1), true},
		{complex(1, notANumber()), complex(1, fromBits(0x7f800001)), true},
		{complex(1, notANumber()), complex(2, notANumber()), false},
		{complex(notANumber(), 1), complex(notANumber(), 2), false},
		{complex(notANumber(), 1), complex(1, notANumber()), false},
	} {
		wantEqual(t, fmt.Sprintf("SameComplex(%v, %v)", c.a, c.b), impl.SameComplex(c.a, c.b), c.want)
	}
}

func TestIsFinite(t *testing.T) {
	for _, c := range []struct {
		x    float32
		want bool
	}{
		{0, true}, {minusZero(), true}, {1, true}, {-1, true},
		{fromBits(1), true}, {-fromBits(1), true},
		{math.MaxFloat32, true}, {-math.MaxFloat32, true},
		{infinity(), false}, {-infinity(), false},
		{notANumber(), false}, {fromBits(0x7f800001), false}, {fromBits(0x7fffffff), false},
	} {
		wantEqual(t, fmt.Sprintf("IsFinite(%v)", c.x), impl.IsFinite(c.x), c.want)
		wantEqual(t, fmt.Sprintf("IsFiniteComplex(%v, 1)", c.x), impl.IsFiniteComplex(complex(c.x, 1)), c.want)
		wantEqual(t, fmt.Sprintf("IsFiniteComplex(1, %v)", c.x), impl.IsFiniteComplex(complex(1, c.x)), c.want)
	}
	wantEqual(t, "IsFiniteComplex of two infinities", impl.IsFiniteComplex(complex(infinity(), -infinity())), false)
}

func TestBitsOf(t *testing.T) {
	for _, c := range []struct {
		x    float32
		want int64
	}{
		{0, 0},
		{minusZero(), 2147483648},
		{1, 1065353216},
		{-2, 3221225472},
		{fromBits(1), 1},
		{-fromBits(1), 2147483649},
		{fromBits(0x007fffff), 8388607},
		{math.MaxFloat32, 2139095039},
		{infinity(), 2139095040},
		{-infinity(), 4286578688},
		{fromBits(0x7fc00000), 2143289344},
		{fromBits(0x7f800001), 2143289344},
		{fromBits(0xffc00000), 2143289344},
		{fromBits(0xffffffff), 2143289344},
	} {
		wantEqual(t, fmt.Sprintf("BitsOf(%v)", c.x), impl.BitsOf(c.x), c.want)
	}
}

func TestFromBits(t *testing.T) {
	for _, c := range []struct {
		n    int64
		want float32
		ok   bool
	}{
		{0, 0, true},
		{1, math.SmallestNonzeroFloat32, true},
		{2147483648, minusZero(), true},
		{1065353216, 1, true},
		{3221225472, -2, true},
		{2139095039, math.MaxFloat32, true},
		{2139095040, infinity(), true},
		{4286578688, -infinity(), true},
		{2139095041, notANumber(), true},
		{2143289344, notANumber(), true},
		{4290772992, notANumber(), true},
		{4294967295, notANumber(), true},
		{-1, 0, false},
		{4294967296, 0, false},
		{4294967296 + 1065353216, 0, false},
		{math.MinInt64, 0, false},
		{math.MaxInt64, 0, false},
	} {
		x, ok := impl.FromBits(c.n)
		wantNumber(t, fmt.Sprintf("FromBits(%d)", c.n), x, c.want)
		wantEqual(t, fmt.Sprintf("FromBits(%d) succeeds", c.n), ok, c.ok)
	}
}

func TestBitsLeadBack(t *testing.T) {
	for n := int64(0); n <= math.MaxUint32; n += 65537 {
		x, ok := impl.FromBits(n)
		want := n
		if x != x {
			want = 2143289344
		}
		if back := impl.BitsOf(x); !ok || back != want {
			t.Fatalf("bits %d: got %v, and back %d, want %d", n, ok, back, want)
		}
	}
}

// narrowings are 64-bit numbers, most of them beside or in the middle between two 32-bit ones.
func narrowings() []struct {
	x    float64
	want float32
} {
	return []struct {
		x    float64
		want float32
	}{
		{0, 0},
		{math.Copysign(0, -1), minusZero()},
		{0.5, 0.5},
		{-1.5, -1.5},
		{0.1, fromBits(0x3dcccccd)},
		{1 + 0x1p-24, 1},
		{1 + 0x1p-24 + 0x1p-52, 1 + 0x1p-23},
		{1 + 0x3p-24, 1 + 0x1p-22},
		{-1 - 0x3p-24, -1 - 0x1p-22},
		{16777217, 16777216},
		{16777219, 16777220},
		{0x1p-149, fromBits(1)},
		{0x1p-150, 0},
		{-0x1p-150, minusZero()},
		{0x1.0000000000001p-150, fromBits(1)},
		{0x3p-150, fromBits(2)},
		{0x1p-127, fromBits(0x00400000)},
		{5e-324, 0},
		{-5e-324, minusZero()},
		{math.MaxFloat32, math.MaxFloat32},
		{0x1.fffffefffffffp127, math.MaxFloat32},
		{0x1.ffffffp127, infinity()},
		{-0x1.ffffffp127, -infinity()},
		{1e300, infinity()},
		{math.Inf(1), infinity()},
		{math.Inf(-1), -infinity()},
		{math.NaN(), notANumber()},
	}
}

func TestNarrowing(t *testing.T) {
	for _, c := range narrowings() {
		wantNumber(t, fmt.Sprintf("NarrowNumber(%v)", c.x), impl.NarrowNumber(c.x), c.want)
		wantComplex(t, fmt.Sprintf("NarrowComplex(%v, 3)", c.x), impl.NarrowComplex(complex(c.x, 3)), complex(c.want, 3))
		wantComplex(t, fmt.Sprintf("NarrowComplex(3, %v)", c.x), impl.NarrowComplex(complex(3, c.x)), complex(3, c.want))
	}
}

func TestSubnormals(t *testing.T) {
	for _, c := range []struct {
		x         float32
		subnormal bool
		flushed   float32
	}{
		{0, false, 0},
		{minusZero(), false, minusZero()},
		{fromBits(0x00000001), true, 0},
		{fromBits(0x80000001), true, minusZero()},
		{fromBits(0x00400000), true, 0},
		{fromBits(0x007fffff), true, 0},
		{fromBits(0x807fffff), true, minusZero()},
		{fromBits(0x00800000), false, fromBits(0x00800000)},
		{fromBits(0x80800000), false, fromBits(0x80800000)},
		{fromBits(0x00800001), false, fromBits(0x00800001)},
		{1, false, 1},
		{-1, false, -1},
		{math.MaxFloat32, false, math.MaxFloat32},
		{infinity(), false, infinity()},
		{-infinity(), false, -infinity()},
		{notANumber(), false, notANumber()},
	} {
		wantEqual(t, fmt.Sprintf("IsSubnormal(%v)", c.x), impl.IsSubnormal(c.x), c.subnormal)
		wantNumber(t, fmt.Sprintf("FlushNumber(%v)", c.x), impl.FlushNumber(c.x), c.flushed)
	}
}

func TestProductExample(t *testing.T) {
	wantComplex(t, "product of 1 + 2 i and 3 - i", impl.MulComplex(complex(1, 2), complex(3, -1)), complex(5, 5))
}

func TestProductsOfSmallIntegersAreExact(t *testing.T) {
	for a := -6; a <= 6; a++ {
		for b := -6; b <= 6; b++ {
			for c := -6; c <= 6; c++ {
				for d := -6; d <= 6; d++ {
					checkSmallProduct(t, a, b, c, d)
				}
			}
		}
	}
}

func checkSmallProduct(t *testing.T, a, b, c, d int) {
	t.Helper()
	x, y := complex(float32(a), float32(b)), complex(float32(c), float32(d))
	want := complex(float32(a*c-b*d), float32(a*d+b*c))
	product := impl.MulComplex(x, y)
	if product != want {
		t.Errorf("product of %v and %v: got %v, want %v", x, y, product, want)
	}
	if y == 0 {
		return
	}
	if back := impl.QuotientOf(want, y); back != x {
		t.Errorf("quotient of %v and %v: got %v, want %v", want, y, back, x)
	}
}

func TestProducts(t *testing.T) {
	zero, minus, huge, inf := float32(0), minusZero(), float32(math.MaxFloat32), infinity()
	for _, c := range []struct{ x, y, want complex64 }{
		{complex(zero, zero), complex(zero, zero), complex(zero, zero)},
		{complex(minus, zero), complex(1, zero), complex(minus, zero)},
		{complex(minus, minus), complex(1, zero), complex(zero, minus)},
		{complex(1, minus), complex(1, zero), complex(1, zero)},
		{complex(1, minus), complex(1, minus), complex(1, minus)},
		{complex(-1, zero), complex(zero, zero), complex(minus, zero)},
		{complex(inf, 0), complex(1, 0), complex(inf, notANumber())},
		{complex(1, 0), complex(notANumber(), 2), complex(notANumber(), notANumber())},
		{complex(huge, huge), complex(huge, huge), complex(zero, inf)},
		{complex(huge, huge), complex(-huge, 0), complex(-inf, -inf)},
		{complex(fromBits(1), 0), complex(0.5, 0), complex(zero, zero)},
		{complex(fromBits(1), 0), complex(-0.5, 0), complex(minus, zero)},
		// In 32-bit numbers, the product would be rounded before it is taken from.
		{complex(1+0x1p-12, 1), complex(1+0x1p-12, 1+0x1p-11), complex(0x1p-24, 2+0x1p-10)},
		{complex(fromBits(0xbf7550de), fromBits(0x3fcccd6d)), complex(fromBits(0x3e4fc06a), fromBits(0xbfddb698)), complex(fromBits(0x4024ee1e), fromBits(0x3ffe02cb))},
		{complex(fromBits(0x3ed1bc0d), fromBits(0x3f547166)), complex(fromBits(0xbfd24e97), fromBits(0xbe837222)), complex(fromBits(0xbeeb848d), fromBits(0xbfbbfc55))},
		{complex(fromBits(0x3f1bf59d), fromBits(0xbebad552)), complex(fromBits(0xbe1c04c1), fromBits(0x3e7832d6)), complex(fromBits(0xbb8f560e), fromBits(0x3e5023a4))},
	} {
		wantComplex(t, fmt.Sprintf("MulComplex(%v, %v)", c.x, c.y), impl.MulComplex(c.x, c.y), c.want)
	}
}

func TestScaleComplex(t *testing.T) {
	zero, minus, inf := float32(0), minusZero(), infinity()
	for _, c := range []struct {
		x    complex64
		by   float32
		want complex64
	}{
		{complex(1, 2), 0.5, complex(0.5, 1)},
		{complex(3, -4), -2, complex(-6, 8)},
		{complex(1, minus), -1, complex(-1, zero)},
		{complex(1, minus), 1, complex(1, minus)},
		{complex(zero, -2), minus, complex(minus, zero)},
		{complex(inf, 1), 2, complex(inf, 2)},
		{complex(1, inf), 0, complex(0, notANumber())},
		{complex(1, 2), notANumber(), complex(notANumber(), notANumber())},
		{complex(math.MaxFloat32, 1), 2, complex(inf, 2)},
		{complex(fromBits(1), fromBits(3)), 0.5, complex(0, fromBits(2))},
		{complex(1+0x1p-23, 0.1), 1 + 0x1p-23, complex(1+0x1p-22, fromBits(0x3dcccccf))},
	} {
		wantComplex(t, fmt.Sprintf("ScaleComplex(%v, %v)", c.x, c.by), impl.ScaleComplex(c.x, c.by), c.want)
	}
}

func TestConjugateOf(t *testing.T) {
	for _, c := range []struct{ x, want complex64 }{
		{complex(1, 2), complex(1, -2)},
		{complex(-1, -2), complex(-1, 2)},
		{complex(1, 0), complex(1, minusZero())},
		{complex(minusZero(), minusZero()), complex(minusZero(), 0)},
		{complex(infinity(), infinity()), complex(infinity(), -infinity())},
		{complex(1, notANumber()), complex(1, notANumber())},
		{complex(notANumber(), fromBits(1)), complex(notANumber(), -fromBits(1))},
	} {
		wantComplex(t, fmt.Sprintf("ConjugateOf(%v)", c.x), impl.ConjugateOf(c.x), c.want)
	}
}

func TestPowersAndLengths(t *testing.T) {
	inf := infinity()
	for _, c := range []struct {
		x           complex64
		power, long float32
	}{
		{complex(3, 4), 25, 5},
		{complex(-3, -4), 25, 5},
		{0, 0, 0},
		{complex(minusZero(), minusZero()), 0, 0},
		{complex(0, -2), 4, 2},
		// The powers are no 32-bit numbers, but their roots are.
		{complex(0x1.8p127, 0), inf, 0x1.8p127},
		{complex(0, -0x1p-100), 0, 0x1p-100},
		{complex(fromBits(1), 0), 0, fromBits(1)},
		{complex(math.MaxFloat32, math.MaxFloat32), inf, inf},
		{complex(inf, 0), inf, inf},
		{complex(1, -inf), inf, inf},
		{complex(notANumber(), 1), notANumber(), notANumber()},
		{complex(inf, notANumber()), notANumber(), notANumber()},
		{complex(fromBits(0x3eef4da8), fromBits(0x3f02a5d4)), fromBits(0x3ef532b9), fromBits(0x3f3128be)},
		{complex(fromBits(0x3ebdda00), fromBits(0xbf372740)), fromBits(0x3f263c0b), fromBits(0x3f4e4a89)},
		{complex(fromBits(0xbf3cf611), fromBits(0xbf8ee641)), fromBits(0x3fe545a9), fromBits(0x3fab4f26)},
		{complex(fromBits(0xc007291e), fromBits(0x3fcff843)), fromBits(0x40e3327f), fromBits(0x402a8842)},
	} {
		wantNumber(t, fmt.Sprintf("PowerOf(%v)", c.x), impl.PowerOf(c.x), c.power)
		wantNumber(t, fmt.Sprintf("LongOf(%v)", c.x), impl.LongOf(c.x), c.long)
	}
}

func TestQuotients(t *testing.T) {
	zero, minus, inf, none := float32(0), minusZero(), infinity(), notANumber()
	for _, c := range []struct{ x, y, want complex64 }{
		{complex(0, 4), 2, complex(zero, 2)},
		{complex(5, 5), complex(3, -1), complex(1, 2)},
		{complex(-5, 5), complex(1, 0), complex(-5, 5)},
		{complex(minus, zero), complex(1, zero), complex(zero, zero)},
		{complex(minus, minus), complex(1, zero), complex(minus, zero)},
		{complex(minus, zero), complex(1, minus), complex(minus, zero)},
		{complex(1, 2), 0, complex(none, none)},
		{complex(1, 2), complex(minus, minus), complex(none, none)},
		{complex(inf, 2), 0, complex(none, none)},
		{0, 0, complex(none, none)},
		{complex(1, 0), complex(inf, 0), complex(none, none)},
		{complex(inf, 0), complex(1, 0), complex(inf, none)},
		{complex(1, none), complex(1, 1), complex(none, none)},
		// The powers of y are no 32-bit numbers.
		{complex(0x1p-100, 0), complex(0x1p-100, 0), complex(1, zero)},
		{complex(fromBits(3), 0), complex(0, fromBits(1)), complex(zero, -3)},
		{complex(0x1p127, 0x1p127), complex(0x1p127, 0x1p127), complex(1, zero)},
		{complex(math.MaxFloat32, 0), complex(0.5, 0), complex(inf, zero)},
		{complex(fromBits(0xbfa2d375), fromBits(0x3f1d2ea6)), complex(fromBits(0xbf992db8), fromBits(0xbea5169d)), complex(fromBits(0x3f5cb601), fromBits(0xbf3ed03a))},
		{complex(fromBits(0x3d451869), fromBits(0x3f88cefc)), complex(fromBits(0xbea66d3b), fromBits(0x3ed77642)), complex(fromBits(0x3fc488a0), fromBits(0xbfa67139))},
		{complex(fromBits(0xbd6f16d6), fromBits(0x3fed39c7)), complex(fromBits(0x400a3d1f), fromBits(0xbf065b06)), complex(fromBits(0xbe63b6c9), fromBits(0x3f4dd2b4))},
		{complex(fromBits(0xbd5cacba), fromBits(0x3fa99eb6)), complex(fromBits(0x3eb2b38d), fromBits(0x3f2391f0)), complex(fromBits(0x3fc7eb2c), fromBits(0x3f6fff8e))},
	} {
		wantComplex(t, fmt.Sprintf("QuotientOf(%v, %v)", c.x, c.y), impl.QuotientOf(c.x, c.y), c.want)
	}
}

func TestRootNumber(t *testing.T) {
	for _, c := range []struct{ x, want float32 }{
		{9, 3}, {1, 1}, {0.25, 0.5},
		{2, fromBits(0x3fb504f3)},
		{0, 0}, {minusZero(), minusZero()},
		{0x1p-148, 0x1p-74},
		{fromBits(1), fromBits(0x1a3504f3)},
		{math.MaxFloat32, fromBits(0x5f7fffff)},
		{infinity(), infinity()},
		{-1, notANumber()}, {-fromBits(1), notANumber()}, {-infinity(), notANumber()},
		{notANumber(), notANumber()},
	} {
		wantNumber(t, fmt.Sprintf("RootNumber(%v)", c.x), impl.RootNumber(c.x), c.want)
	}
}
