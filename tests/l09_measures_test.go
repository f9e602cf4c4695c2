package tests

import (
	"fmt"
	"math"
	"slices"
	"testing"

	"loop.example/g01226/impl"
)

func wantMoments(t *testing.T, rays []impl.Ray, want ...float32) {
	t.Helper()
	uu, uv, vv, ok := impl.MomentsOf(rays)
	wantField(t, shortened("MomentsOf", rays), []float32{uu, uv, vv}, want)
	wantEqual(t, shortened("MomentsOf", rays, "succeeds"), ok, true)
}

func wantArea(t *testing.T, rays []impl.Ray, want float32) {
	t.Helper()
	area, ok := impl.AreaOf(rays)
	wantNumber(t, shortened("AreaOf", rays), area, want)
	wantEqual(t, shortened("AreaOf", rays, "succeeds"), ok, true)
}

func TestCentreOf(t *testing.T) {
	const huge = math.MaxFloat32
	none, nan, inf := minusZero(), notANumber(), infinity()
	for _, c := range []struct {
		rays []impl.Ray
		want complex64
	}{
		{raysAt(complex(3, -4)), complex(3, -4)},
		{raysAt(1, -1), 0},
		{raysAt(complex(1, 2), complex(2, 4), complex(6, -3)), complex(3, 1)},
		{raysAt(complex(1, 0), complex(0, 1), complex(0, 0)), complex(over(1, 3), over(1, 3))},
		// Sums are divided, not multiplied by a rounded quotient.
		{slices.Concat(raysAt(complex(5, 3)), make([]impl.Ray, 6)), complex(over(5, 7), over(3, 7))},
		{slices.Concat(raysAt(complex(3, -1)), make([]impl.Ray, 10)), complex(over(3, 11), over(-1, 11))},
		// They are made in order, from +0 on.
		{raysAt(16777216, 1, 1, 0), 4194304},
		{raysAt(1, 1, 16777216, 0), 4194304.5},
		{raysAt(complex(1e30, 1), complex(-1e30, 1e30), complex(4, -1e30), 0), complex(1, 0)},
		{raysAt(complex(none, none)), 0},
		{raysAt(complex(none, none), complex(none, 0)), 0},
		{raysAt(complex(-fromBits(1), none), 0, 0), complex(none, 0)},
		{raysAt(complex(huge, -huge), complex(huge, -huge)), complex(inf, -inf)},
		{raysAt(complex(huge, 1), complex(-huge, 1), complex(huge, 1), complex(-huge, 5)), complex(0, 2)},
		{raysAt(complex(inf, 1), complex(1, -inf)), complex(inf, -inf)},
		{raysAt(complex(inf, 1), complex(-inf, 1)), complex(nan, 1)},
		{raysAt(complex(1, nan), complex(3, 1)), complex(2, nan)},
	} {
		for i := range c.rays {
			c.rays[i].Phase, c.rays[i].Energy = nan, inf
		}
		got, ok := impl.CentreOf(c.rays)
		wantComplex(t, fmt.Sprint("CentreOf ", c.rays), got, c.want)
		wantEqual(t, fmt.Sprint("CentreOf succeeds for ", c.rays), ok, true)
	}
}

func TestMomentsOf(t *testing.T) {
	const huge = math.MaxFloat32
	none, nan, inf := minusZero(), notANumber(), infinity()
	wantMoments(t, raysAt(1, -1), 1, 0, 0)
	wantMoments(t, raysAt(complex(0, 2), complex(0, -2)), 0, 0, 4)
	wantMoments(t, raysAt(complex(1, 2), complex(-1, -2)), 1, 2, 4)
	wantMoments(t, raysAt(complex(1, -2), complex(-1, 2)), 1, -2, 4)
	wantMoments(t, raysAt(complex(11, 102), complex(9, 98)), 1, 2, 4)
	wantMoments(t, raysAt(complex(0, 0), complex(4, 0), complex(0, 4), complex(4, 4)), 4, 0, 4)
	wantMoments(t, raysAt(complex(5, -7)), 0, 0, 0)
	wantMoments(t, raysAt(complex(none, none)), 0, 0, 0)
	wantMoments(t, repeated(rayAt(3, 5), 256), 0, 0, 0)
	// Each difference, product and sum is rounded.
	third := over(1, 3)
	near, far := minus(1, third), minus(0, third)
	wantMoments(t, raysAt(1, 0, 0), over(plus(plus(times(near, near), times(far, far)), times(far, far)), 3), 0, 0)
	wantMoments(t, raysAt(16777216, 1), over(plus(times(8388608, 8388608), times(8388607, 8388607)), 2), 0, 0)
	wantMoments(t, raysAt(complex(1e30, 1), complex(-1e30, 1)), inf, 0, 0)
	wantMoments(t, raysAt(complex(1e30, 1e-30), complex(-1e30, -1e-30)), inf, times(1e30, 1e-30), 0)
	wantMoments(t, raysAt(complex(1e20, -1e20), complex(-1e20, 1e20)), inf, -inf, inf)
	wantMoments(t, raysAt(complex(1e-30, 0), complex(-1e-30, 0)), 0, 0, 0)
	wantMoments(t, raysAt(complex(0x1p-74, 0x1p-75), complex(-0x1p-74, -0x1p-75)), fromBits(2), fromBits(1), 0)
	wantMoments(t, raysAt(complex(1e-30, -1e-30), complex(-1e-30, 1e-30)), 0, 0, 0)
	// What is not finite.
	wantMoments(t, raysAt(complex(huge, 0), complex(huge, 0)), inf, nan, 0)
	wantMoments(t, raysAt(complex(inf, 1), complex(1, 3)), nan, nan, 1)
	wantMoments(t, raysAt(complex(1, nan), complex(3, 1)), 1, nan, nan)
	wantMoments(t, raysAt(complex(nan, 1), complex(3, 3)), nan, nan, 1)
}

// Products of two differences are rounded before they are added to a sum.
func TestMomentsRoundProducts(t *testing.T) {
	s := newSource()
	for range 1000 {
		x, y := s.number(), s.number()
		// Two opposite rays have the middle 0, and twice the same products.
		wantMoments(t, raysAt(complex(x, y), complex(-x, -y)), times(x, x), times(x, y), times(y, y))
		more := raysAt(complex(x, y), complex(-x, -y), complex(x, y), complex(-x, -y), 0, 0)
		sum := func(a, b float32) float32 {
			p := times(a, b)
			return over(plus(plus(plus(p, p), p), p), 6)
		}
		wantMoments(t, more, sum(x, x), sum(x, y), sum(y, y))
	}
}

func TestAreaOf(t *testing.T) {
	const huge = math.MaxFloat32
	nan, inf := notANumber(), infinity()
	wantArea(t, raysAt(complex(2, 3), complex(2, -3), complex(-2, 3), complex(-2, -3)), 6)
	wantArea(t, raysAt(complex(1, 0), complex(0, 1), complex(-1, 0), complex(0, -1)), 0.5)
	wantArea(t, raysAt(complex(101, 7), complex(100, 8), complex(99, 7), complex(100, 6)), 0.5)
	wantArea(t, raysAt(complex(1, 1), complex(-1, -1), complex(1, 0), complex(-1, 0)), 0.5)
	// The square is 0: all rays on one line, or at one place.
	wantArea(t, raysAt(1, -1), 0)
	wantArea(t, raysAt(complex(1, 2), complex(-1, -2)), 0)
	wantArea(t, raysAt(complex(1, -2), complex(-1, 2)), 0)
	wantArea(t, raysAt(complex(5, 6)), 0)
	wantArea(t, repeated(rayAt(5, 6), 256), 0)
	wantArea(t, raysAt(complex(1e-20, 1e-20), complex(-1e-20, 1e-20)), 0)
	// The square is a not-a-number: an infinity less another, or times 0.
	wantArea(t, raysAt(complex(1e30, 1e30), complex(-1e30, -1e30)), 0)
	wantArea(t, raysAt(complex(1e30, 1), complex(-1e30, 1)), 0)
	wantArea(t, raysAt(complex(nan, 1), complex(1, 2)), 0)
	wantArea(t, raysAt(complex(1, nan), complex(1, 2)), 0)
	wantArea(t, raysAt(complex(inf, 1), complex(1, 2)), 0)
	wantArea(t, raysAt(complex(huge, 1), complex(huge, 2)), 0)
	// It is infinite.
	wantArea(t, raysAt(complex(1e10, 1e10), complex(-1e10, 1e10), complex(1e10, -1e10), complex(-1e10, -1e10)), inf)
	// It is subnormal: its root is not.
	wantArea(t, raysAt(complex(0x1p-37, 0x1p-37), complex(-0x1p-37, 0x1p-37), complex(0x1p-37, -0x1p-37), complex(-0x1p-37, -0x1p-37)), 0x1p-74)
}

// Of rays on one line, rounding may make a square that is less than 0, or a small
// one; the first is +0.
func TestAreasOfRaysOnALine(t *testing.T) {
	s, less, more := newSource(), 0, 0
	for range 3000 {
		x, y := s.number(), s.number()
		rays := raysAt(complex(x, y), complex(2*x, 2*y), complex(-5*x, -5*y), complex(x/3, y/3))
		uu, uv, vv, _ := impl.MomentsOf(rays)
		square := minus(times(uu, vv), times(uv, uv))
		if square < 0 {
			less++
			wantArea(t, rays, 0)
		}
		if square > 0 {
			more++
			wantArea(t, rays, float32(math.Sqrt(float64(square))))
		}
	}
	wantEqual(t, "whether squares were less and greater than 0", less > 100 && more > 100, true)
}

func TestWidestRay(t *testing.T) {
	const huge = math.MaxFloat32
	none, nan, inf, least := minusZero(), notANumber(), infinity(), fromBits(1)
	for _, c := range []struct {
		xs    []float32
		index int64
		want  float32
	}{
		{[]float32{1, -1, 3}, 2, 3}, {[]float32{1, -4, 3}, 1, 4}, {[]float32{5}, 0, 5}, {[]float32{-5}, 0, 5},
		// The first one of several that are equally wide, also on different sides.
		{[]float32{2, 2, 2}, 0, 2}, {[]float32{1, -2, 2, -2}, 1, 2}, {[]float32{1, 2, -2}, 1, 2}, {[]float32{-1, 1}, 0, 1},
		{[]float32{0}, 0, 0}, {[]float32{none}, 0, 0}, {[]float32{none, 0}, 0, 0}, {[]float32{0, none, least}, 2, least}, {[]float32{none, -least, least}, 1, least},
		{[]float32{huge, inf}, 1, inf}, {[]float32{1, -inf, inf}, 1, inf}, {[]float32{-huge, huge}, 0, huge}, {[]float32{1, above(1), 1}, 1, above(1)},
		// Not-a-numbers are left out.
		{[]float32{nan, 1, 2}, 2, 2}, {[]float32{2, nan, 1}, 0, 2}, {[]float32{1, 2, nan}, 1, 2}, {[]float32{nan, nan, 0}, 2, 0}, {[]float32{nan, none, nan}, 1, 0}, {[]float32{nan, -inf, nan, inf}, 1, inf},
		{[]float32{fromBits(0x7f800001), fromBits(0xffc00000), -1}, 2, 1},
	} {
		var rays []impl.Ray
		for i, x := range c.xs {
			// All other numbers do not matter.
			rays = append(rays, impl.Ray{At: complex(x, float32(100*i)), Phase: nan, Energy: inf})
		}
		index, away, ok := impl.WidestRay(rays)
		wantEqual(t, fmt.Sprint("WidestRay ", c.xs), index, c.index)
		wantNumber(t, fmt.Sprint("WidestRay ", c.xs), away, c.want)
		wantEqual(t, fmt.Sprint("WidestRay succeeds for ", c.xs), ok, true)
	}
}

func TestWidestRayOfNotANumbers(t *testing.T) {
	for _, n := range []int{1, 2, 3, 255, 256} {
		for _, nan := range []float32{notANumber(), fromBits(0x7f800001), fromBits(0xffffffff)} {
			rays := repeated(rayAt(nan, 1), n)
			wantFailures(t, []badCall{{fmt.Sprintf("WidestRay of %d not-a-numbers", n), call2(impl.WidestRay(rays))}})
			rays[n-1] = rayAt(minusZero(), nan)
			index, away, ok := impl.WidestRay(rays)
			wantEqual(t, fmt.Sprintf("WidestRay of %d not-a-numbers but the last one", n), ok && index == int64(n-1) && sameBits(away, 0), true)
		}
	}
}

func TestFillBeam(t *testing.T) {
	const huge = math.MaxFloat32
	none, least := minusZero(), fromBits(1)
	for _, c := range []struct {
		count       int64
		size, slope float32
		want        []float32
	}{
		{1, 2, 3, []float32{2, 0, 0, 0}},
		{2, 2, 3, []float32{2, 0, 0, 0, -2, none, 0.5, 0}},
		{4, 2, 1, []float32{2, 0, 0, 0, none, 1, 0.25, 0, -2, none, 0.5, 0, 0, -1, 0.75, 0}},
		{4, -2, -1, []float32{-2, none, 0, 0, 0, -1, 0.25, 0, 2, 0, 0.5, 0, none, 1, 0.75, 0}},
		{1, none, none, []float32{none, none, 0, 0}},
		{2, 0, 0, []float32{0, 0, 0, 0, none, none, 0.5, 0}},
		{2, huge, -huge, []float32{huge, none, 0, 0, -huge, 0, 0.5, 0}},
		{4, least, least, []float32{least, 0, 0, 0, none, least, 0.25, 0, -least, none, 0.5, 0, 0, -least, 0.75, 0}},
	} {
		got, ok := impl.FillBeam(c.count, c.size, c.slope)
		wantRays(t, fmt.Sprint("FillBeam ", c.count, c.size, c.slope), got, raysAs(c.want))
		wantEqual(t, "FillBeam succeeds", ok, true)
	}
}

// A filled beam goes around an ellipse once, with its phases.
func TestFilledBeamsGoAround(t *testing.T) {
	for count := int64(1); count <= 256; count++ {
		rays, ok := impl.FillBeam(count, 3, 0.5)
		wantEqual(t, "FillBeam succeeds with all rays", ok && int64(len(rays)) == count, true)
		for k, r := range rays {
			q := over(float32(k), float32(count))
			sine, cosine := math.Sincos(2 * math.Pi * float64(k) / float64(count))
			what := fmt.Sprintf("FillBeam %d, ray %d", count, k)
			wantNear(t, what, partsOf(r.At), []float32{float32(3 * cosine), float32(0.5 * sine)}, 2e-6)
			wantNumber(t, what+", phase", r.Phase, q)
			wantNumber(t, what+", energy", r.Energy, 0)
			// The sum of the quotient and a quarter is rounded before the sine is told.
			wantComplex(t, what, r.At, complex(times(3, impl.SineTurns(plus(q, 0.25))), times(0.5, impl.SineTurns(q))))
		}
		if count >= 3 {
			area, _ := impl.AreaOf(rays)
			wantNear(t, fmt.Sprintf("the area of a filled beam of %d rays", count), []float32{area}, []float32{0.75}, 1e-5)
			centre, _ := impl.CentreOf(rays)
			wantNearby(t, "the centre of a filled beam", centre, 0, 1e-6)
		}
	}
}

func TestCountsOfFilledBeams(t *testing.T) {
	for _, count := range []int64{0, -1, 257, 258, -256, 1 << 32, 1<<32 + 1, 1 << 62, math.MaxInt64, math.MinInt64} {
		wantFailures(t, []badCall{{fmt.Sprintf("FillBeam %d", count), call1(impl.FillBeam(count, 1, 1))}})
	}
	for _, x := range edgeNumbers() {
		for _, y := range edgeNumbers() {
			wantSuccesses(t, []badCall{{fmt.Sprintf("FillBeam of %v and %v", x, y), call1(impl.FillBeam(256, x, y))}})
		}
		for _, bad := range badNumbers() {
			for _, count := range []int64{1, 3, 256} {
				wantFailures(t, []badCall{
					{fmt.Sprintf("FillBeam of %v and %v", x, bad), call1(impl.FillBeam(count, x, bad))},
					{fmt.Sprintf("FillBeam of %v and %v", bad, x), call1(impl.FillBeam(count, bad, x))},
					{fmt.Sprintf("FillBeam of %v twice", bad), call1(impl.FillBeam(count, bad, bad))},
				})
			}
		}
	}
}

// callsWithBeam are all functions that take at least one ray.
func callsWithBeam(rays []impl.Ray) []badCall {
	n := len(rays)
	return []badCall{
		{fmt.Sprintf("CentreOf %d", n), call1(impl.CentreOf(rays))},
		{fmt.Sprintf("MomentsOf %d", n), call3(impl.MomentsOf(rays))},
		{fmt.Sprintf("AreaOf %d", n), call1(impl.AreaOf(rays))},
		{fmt.Sprintf("WidestRay of %d", n), call2(impl.WidestRay(rays))},
	}
}

func TestMeasuredBeamsHaveLimits(t *testing.T) {
	wantFailures(t, callsWithBeam(nil))
	wantFailures(t, callsWithBeam([]impl.Ray{}))
	for _, n := range []int{257, 258, 512, 10000} {
		wantFailures(t, callsWithBeam(repeated(rayAt(1, 2), n)))
	}
	for n := 1; n <= 256; n++ {
		wantSuccesses(t, callsWithBeam(repeated(rayAt(1, 2), n)))
	}
}

// Rays may have any numbers.
func TestMeasuresTakeAnyNumbers(t *testing.T) {
	for _, x := range oddNumbers() {
		for _, y := range oddNumbers() {
			rays := []impl.Ray{rayAt(1, 2), {At: complex(x, y), Phase: y, Energy: x}, rayAt(y, x)}
			wantSuccesses(t, callsWithBeam(rays))
			a := beamWith(nil, rays, nil, nil, 0, 0, 0, 0)
			wantBeamWords(t, a, beamsWanted().wordsOf(a))
		}
	}
}
