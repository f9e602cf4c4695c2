package tests

import (
	"fmt"
	"math"
	"testing"

	"loop.example/g01226/impl"
)

// wantPassed wants a ray that is not lost.
func wantPassed(t *testing.T, e impl.Element, r, want impl.Ray) {
	t.Helper()
	got, lost, ok := impl.PassElement(e, r)
	what := fmt.Sprintf("PassElement(%v, %v)", e, r)
	wantRays(t, what, []impl.Ray{got}, []impl.Ray{want})
	wantEqual(t, what+" loses the ray", lost, false)
	wantEqual(t, what+" succeeds", ok, true)
}

// callOfElement makes a number of what tells whether a ray is lost.
func callOfElement(r impl.Ray, lost, ok bool) []any {
	return results(r, oneIf(lost), ok)
}

func TestKindsOfElements(t *testing.T) {
	for want, kind := range []int64{impl.ElementDrift, impl.ElementLens, impl.ElementAperture, impl.ElementKick, impl.ElementResonator} {
		wantEqual(t, "the number of a kind", kind, int64(want))
	}
	wantEqual(t, "MaxLine", impl.MaxLine, 32)
	wantEqual(t, "MaxTurns", impl.MaxTurns, 40)
}

func TestExamplesOfElements(t *testing.T) {
	wantPassed(t, driftOf(2), rayAt(1, 1), rayAt(3, 1))
	wantPassed(t, lensOf(2), rayAt(2, 1), rayAt(2, 0))
}

func TestDrifts(t *testing.T) {
	const huge = math.MaxFloat32
	none, nan, inf, least := minusZero(), notANumber(), infinity(), fromBits(1)
	near := above(1)
	for _, c := range []struct {
		long    float32
		r, want []float32
	}{
		{2, []float32{1, 1, 0.5, 3}, []float32{3, 1, 6.5, 3}},
		{-2, []float32{3, 1, 6.5, 3}, []float32{1, 1, 0.5, 3}},
		{0.5, []float32{0, -4, 0, -4}, []float32{-2, -4, -2, -4}},
		{0, []float32{1, 1, 1, 1}, []float32{1, 1, 1, 1}},
		// Each product has its own sign, also where it is zero.
		{0, []float32{none, 1, none, 1}, []float32{0, 1, 0, 1}},
		{0, []float32{none, -1, none, -1}, []float32{none, -1, none, -1}},
		{none, []float32{none, 1, none, 1}, []float32{none, 1, none, 1}},
		{none, []float32{none, -1, none, -1}, []float32{0, -1, 0, -1}},
		{1, []float32{0, none, none, 0}, []float32{0, none, 0, 0}},
		{1, []float32{none, none, none, none}, []float32{none, none, none, none}},
		// Products are rounded before they are added.
		{near, []float32{-above(near), near, 0, 0}, []float32{0, near, 0, 0}},
		{near, []float32{0, 0, -above(near), near}, []float32{0, 0, 0, near}},
		{0.1, []float32{1, 0.3, 2, 0.7}, []float32{plus(1, times(0.1, 0.3)), 0.3, plus(2, times(0.1, 0.7)), 0.7}},
		{0.5, []float32{0, least, 0, least}, []float32{0, least, 0, least}},
		{0.75, []float32{0, least, 0, 3 * least}, []float32{least, least, 2 * least, 3 * least}},
		{huge, []float32{-huge, 2, -huge, 2}, []float32{inf, 2, inf, 2}},
		{1, []float32{16777216, 1, 1, 16777216}, []float32{16777216, 1, 16777216, 16777216}},
		// What is not finite.
		{0, []float32{1, inf, 1, -inf}, []float32{nan, inf, nan, -inf}},
		{2, []float32{inf, -inf, inf, inf}, []float32{nan, -inf, inf, inf}},
		{2, []float32{nan, 1, 1, 1}, []float32{nan, 1, 3, 1}},
		{2, []float32{1, nan, 1, 1}, []float32{nan, nan, 3, 1}},
		{2, []float32{1, 1, nan, 1}, []float32{3, 1, nan, 1}},
		{2, []float32{1, 1, 1, nan}, []float32{3, 1, nan, nan}},
	} {
		for _, phase := range []float32{0, none, 0.3, huge} {
			wantPassed(t, impl.Element{Kind: 0, Number: c.long, Phase: phase}, raysAs(c.r)[0], raysAs(c.want)[0])
		}
	}
}

func TestLenses(t *testing.T) {
	const huge = math.MaxFloat32
	none, nan, inf, least := minusZero(), notANumber(), infinity(), fromBits(1)
	for _, c := range []struct{ focus, x, y, want float32 }{
		{2, 2, 1, 0}, {2, -2, 1, 2}, {-2, 2, 1, 2}, {0.5, 3, 1, -5}, {1, 0, 5, 5}, {4, 1, 0, -0.25},
		// A quotient is not a product with a rounded one.
		{3, 5, 0, -over(5, 3)}, {49, 1, 0, -over(1, 49)}, {49, 49, 1, 0}, {41, 41, 0, -1}, {-41, 41, 0, 1},
		{2, 0, 0, 0}, {2, 0, none, none}, {2, none, 0, 0}, {2, none, none, 0}, {-2, 0, none, 0}, {-2, none, none, none}, {-2, 0, 0, 0},
		{least, 1, 1, -inf}, {least, -1, 1, inf}, {-least, 1, 1, inf}, {least, 0, 1, 1}, {least, none, none, 0}, {least, least, 0, -1}, {least, 3 * least, 1, -2},
		{huge, huge, 3, 2}, {huge, 1, 1, 1}, {huge, least, 0, 0}, {huge, least, none, none}, {huge, -least, none, 0},
		{1, 1, 16777216, 16777215}, {1, -1, 16777216, 16777216}, {0.1, 0.3, 1, minus(1, over(0.3, 0.1))},
		{1, inf, 1, -inf}, {-1, inf, 1, inf}, {1, inf, inf, nan}, {1, inf, -inf, -inf}, {1, nan, 1, nan}, {1, 1, nan, nan}, {huge, inf, 0, -inf}, {0.5, huge, 0, -inf},
	} {
		r := impl.Ray{At: complex(c.x, c.y), Phase: 0.25, Energy: -3}
		want := impl.Ray{At: complex(c.x, c.want), Phase: 0.25, Energy: -3}
		wantPassed(t, lensOf(c.focus), r, want)
		wantPassed(t, impl.Element{Kind: 1, Number: c.focus, Phase: 0.75}, r, want)
	}
}

func TestApertures(t *testing.T) {
	const huge = math.MaxFloat32
	none, nan, inf, least := minusZero(), notANumber(), infinity(), fromBits(1)
	for _, c := range []struct {
		half, x float32
		lost    bool
	}{
		{1, 0, false}, {1, 0.5, false}, {1, 1, false}, {1, -1, false}, {1, below(1), false}, {1, -below(1), false}, {1, above(1), true}, {1, -above(1), true}, {1, 2, true}, {1, -2, true},
		{0, 0, false}, {0, none, false}, {none, 0, false}, {none, none, false}, {0, least, true}, {0, -least, true}, {none, least, true}, {none, -least, true},
		{least, least, false}, {least, -least, false}, {least, 2 * least, true}, {least, -2 * least, true}, {0.1, 0.1, false}, {0.1, above(0.1), true},
		{huge, huge, false}, {huge, -huge, false}, {huge, inf, true}, {huge, -inf, true}, {1, inf, true}, {1, -inf, true}, {0, inf, true},
		{huge, nan, true}, {1, nan, true}, {0, nan, true}, {none, nan, true}, {1, fromBits(0x7f800001), true}, {1, -nan, true},
	} {
		for _, y := range []float32{0, none, 100, -inf, nan} {
			r := impl.Ray{At: complex(c.x, y), Phase: y, Energy: -y}
			got, lost, ok := impl.PassElement(apertureOf(c.half), r)
			what := fmt.Sprintf("PassElement of an aperture %v, and %v", c.half, r)
			wantRays(t, what, []impl.Ray{got}, []impl.Ray{r})
			wantEqual(t, what+" loses the ray", lost, c.lost)
			wantEqual(t, what+" succeeds", ok, true)
		}
	}
}

func TestKicks(t *testing.T) {
	const huge = math.MaxFloat32
	none, nan, inf := minusZero(), notANumber(), infinity()
	for _, c := range []struct{ by, y, want float32 }{
		{1, 2, 3}, {-1, 2, 1}, {0, 2, 2}, {2, -2, 0}, {0, none, 0}, {none, none, none}, {none, 0, 0}, {0.1, 0.2, plus(0.1, 0.2)}, {1, 16777216, 16777216},
		{huge, huge, inf}, {-huge, huge, 0}, {1, inf, inf}, {-huge, inf, inf}, {1, nan, nan}, {fromBits(1), fromBits(2), fromBits(3)},
	} {
		for _, x := range []float32{5, none, inf, nan} {
			r, want := impl.Ray{At: complex(x, c.y), Phase: x, Energy: -x}, impl.Ray{At: complex(x, c.want), Phase: x, Energy: -x}
			wantPassed(t, kickOf(c.by), r, want)
			wantPassed(t, impl.Element{Kind: 3, Number: c.by, Phase: 0.5}, r, want)
		}
	}
}

func TestResonators(t *testing.T) {
	const huge = math.MaxFloat32
	none, nan, inf := minusZero(), notANumber(), infinity()
	for _, c := range []struct{ size, phase, at, energy, want float32 }{
		// size and phase are those of the element, at and energy those of the ray.
		{2, 0, 0.25, 0, 2}, {2, 0.25, 0, 0, 2}, {2, 0.125, 0.125, 1, 3}, {2, 0.5, 0.25, 1, -1}, {2, -0.25, 0, 1, -1}, {2, 0, -0.25, 1, -1}, {-2, 0, 0.25, 1, -1},
		{2, 0, 0, 1, 1}, {2, 0.5, 0, 1, 1}, {2, 0.25, -0.25, 1, 1}, {2, 1, 0.25, 1, 3}, {2, -7, 0.25, 1, 3}, {3, 0, 1.0 / 12, 0, 1.5},
		{0, 0.1, 0.1, 7, 7}, {0, 0.25, 0, none, 0}, {none, 0.25, 0, none, none}, {0, -0.25, 0, none, none}, {2, none, none, none, none}, {2, 0, none, none, 0}, {2, none, none, 0, 0},
		// Both phases are added before the sine is told.
		{2, 0.25, 16777216, 1, 1}, {2, 16777216, 0.25, 1, 1}, {2, 0.25, 8388608, 1, 1}, {2, 0.25, 2097152, 1, 3}, {2, 1e30, -1e30, 1, 1}, {2, 1e30, 0.25, 1, 1}, {1, huge, huge, 1, nan},
		{16777216, 0.25, 0, 1, 16777216}, {0.1, 0.25, 0, 0.3, plus(0.3, 0.1)}, {huge, 0.25, 0, huge, inf}, {huge, 0.25, 0, -huge, 0},
		{2, 0, inf, 1, nan}, {2, 0, -inf, 1, nan}, {2, 0, nan, 1, nan}, {0, 0, inf, 1, nan}, {2, 0, 0.25, nan, nan}, {2, 0, 0.25, inf, inf}, {2, 0, 0.25, -inf, -inf},
	} {
		r := impl.Ray{At: complex(none, inf), Phase: c.at, Energy: c.energy}
		wantPassed(t, resonatorOf(c.size, c.phase), r, impl.Ray{At: r.At, Phase: c.at, Energy: c.want})
	}
}

// The product of Number and the sine is rounded before it is added.
func TestResonatorsRoundProducts(t *testing.T) {
	s := newSource()
	for range 2000 {
		size, phase, at := s.number(), float32(s.Float64()), float32(s.Float64())
		product := times(size, impl.SineTurns(plus(at, phase)))
		r := impl.Ray{At: 1, Phase: at, Energy: -product}
		wantPassed(t, resonatorOf(size, phase), r, impl.Ray{At: 1, Phase: at})
	}
}

// A ray that is at rest in a resonator goes the way of a pendulum around it.
func TestRaysSwingAroundThePhaseOfAResonator(t *testing.T) {
	line := []impl.Element{resonatorOf(-0.01, 0.25), driftOf(1)}
	r, most, least := impl.Ray{Phase: -0.2}, float32(-1), float32(1)
	for range 400 {
		r, _, _ = impl.PassLine(line, r)
		most, least = max(most, r.Phase), min(least, r.Phase)
	}
	wantNear(t, "the phases around -0.25", []float32{most, least}, []float32{-0.2, -0.3}, 0.01)
}

func TestSameRay(t *testing.T) {
	numbers := oddNumbers()
	for part := range 4 {
		for _, x := range numbers {
			for _, y := range numbers {
				a, b := []float32{1, 2, 3, 4}, []float32{1, 2, 3, 4}
				a[part], b[part] = x, y
				got := impl.SameRay(raysAs(a)[0], raysAs(b)[0])
				wantEqual(t, fmt.Sprintf("SameRay of %v and %v", a, b), got, sameBits(x, y))
			}
		}
	}
	wantEqual(t, "SameRay of the same numbers in other places", impl.SameRay(raysAs([]float32{1, 2, 3, 4})[0], raysAs([]float32{2, 1, 3, 4})[0]), false)
	wantEqual(t, "SameRay of the same numbers in other places", impl.SameRay(raysAs([]float32{1, 2, 3, 4})[0], raysAs([]float32{1, 2, 4, 3})[0]), false)
}

// elementValidity tells for each kind which numbers are valid as Number.
func elementValidity(kind int64, x float32) bool {
	switch {
	case !finite(x) || kind < 0 || kind > 4:
		return false
	case kind == 1:
		return x != 0
	case kind == 2:
		return x >= 0
	}
	return true
}

func TestValidLine(t *testing.T) {
	for _, kind := range []int64{0, 1, 2, 3, 4, 5, -1, 6, 256, 1 << 32, 1<<32 + 1, math.MaxInt64, math.MinInt64} {
		for _, x := range oddNumbers() {
			for _, phase := range oddNumbers() {
				e := impl.Element{Kind: kind, Number: x, Phase: phase}
				want := elementValidity(kind, x) && finite(phase)
				for _, line := range [][]impl.Element{{e}, {e, driftOf(1)}, {driftOf(1), lensOf(1), e}} {
					wantEqual(t, fmt.Sprint("ValidLine ", line), impl.ValidLine(line), want)
				}
				got, _, ok := impl.PassElement(e, rayAt(1, 1))
				wantEqual(t, fmt.Sprint("PassElement ", e, " succeeds"), ok, want)
				if !ok {
					wantRays(t, fmt.Sprint("PassElement ", e), []impl.Ray{got}, []impl.Ray{{}})
				}
			}
		}
	}
}

func TestLengthsOfLines(t *testing.T) {
	for _, e := range []impl.Element{driftOf(1), lensOf(1), apertureOf(1), kickOf(1), resonatorOf(1, 1), {}} {
		for n := range 70 {
			wantEqual(t, fmt.Sprintf("ValidLine of %d of %v", n, e), impl.ValidLine(repeated(e, n)), n <= 32)
		}
		wantEqual(t, "ValidLine of very many", impl.ValidLine(repeated(e, 100000)), false)
	}
	wantEqual(t, "ValidLine of nil", impl.ValidLine(nil), true)
	wantEqual(t, "ValidLine of the zero element", impl.ValidLine([]impl.Element{{}}), true)
}
