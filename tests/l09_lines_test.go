package tests

import (
	"fmt"
	"math"
	"slices"
	"testing"

	"loop.example/g01226/impl"
)

func wantEnd(t *testing.T, line []impl.Element, r, want impl.Ray, wantIndex int64) {
	t.Helper()
	got, index, ok := impl.PassLine(line, r)
	what := fmt.Sprintf("PassLine(%v, %v)", line, r)
	wantRays(t, what, []impl.Ray{got}, []impl.Ray{want})
	wantEqual(t, what+", where the ray is lost", index, wantIndex)
	wantEqual(t, what+" succeeds", ok, true)
}

func wantBeam(t *testing.T, line []impl.Element, rays, want []impl.Ray, wantLost ...int64) {
	t.Helper()
	got, lost, ok := impl.PassBeam(line, rays)
	what := "PassBeam " + shortened(line, rays)
	wantRays(t, what, got, want)
	wantIntegers(t, what+", lost", lost, ok, wantLost...)
}

func wantTurns(t *testing.T, line []impl.Element, rays []impl.Ray, turns int64, want []impl.Ray, wantLost ...int64) {
	t.Helper()
	got, lost, ok := impl.RunRing(line, rays, turns)
	what := "RunRing " + shortened(line, rays, turns)
	wantRays(t, what, got, want)
	wantIntegers(t, what+", lost", lost, ok, wantLost...)
}

func TestPassLine(t *testing.T) {
	drift, lens := driftOf(1), lensOf(2)
	wantEnd(t, []impl.Element{drift, lens}, rayAt(1, 1), rayAt(2, 0), -1)
	wantEnd(t, []impl.Element{lens, drift}, rayAt(1, 1), rayAt(1.5, 0.5), -1)
	wantEnd(t, []impl.Element{kickOf(1), drift, kickOf(-1)}, rayAt(1, 1), rayAt(3, 1), -1)
	wantEnd(t, []impl.Element{drift, kickOf(1), kickOf(-1)}, rayAt(1, 1), rayAt(2, 1), -1)
	// The phase goes on by the energy that the ray has then.
	r := impl.Ray{Phase: 0.25, Energy: 1}
	wantEnd(t, []impl.Element{resonatorOf(2, 0), drift}, r, impl.Ray{Phase: 3.25, Energy: 3}, -1)
	wantEnd(t, []impl.Element{drift, resonatorOf(2, 0)}, r, impl.Ray{Phase: 1.25, Energy: 3}, -1)
	wantEnd(t, []impl.Element{driftOf(0.25), resonatorOf(2, 0)}, r, impl.Ray{Phase: 0.5, Energy: 1}, -1)
}

// A line of no element leaves each ray as it is.
func TestLinesOfNoElement(t *testing.T) {
	odd := oddNumbers()
	for i := range odd {
		r := raysAs([]float32{odd[i], odd[(i+1)%len(odd)], odd[(i+2)%len(odd)], odd[(i+3)%len(odd)]})[0]
		wantEnd(t, nil, r, r, -1)
		wantEnd(t, []impl.Element{}, r, r, -1)
		wantBeam(t, nil, []impl.Ray{r}, []impl.Ray{r})
		wantTurns(t, nil, []impl.Ray{r, {}, r}, 3, []impl.Ray{r, {}, r}, 0, 0, 0)
	}
	back, ok := impl.BackLine(nil)
	wantEqual(t, "BackLine of nil", len(back) == 0 && ok, true)
}

func TestRaysAreLostWhereTheyAre(t *testing.T) {
	line := []impl.Element{apertureOf(4), driftOf(1), apertureOf(2), kickOf(1), driftOf(1), apertureOf(3)}
	for _, c := range []struct {
		r, want impl.Ray
		index   int64
	}{
		{rayAt(1, 0), rayAt(2, 1), -1},
		{rayAt(0, 1), rayAt(3, 2), -1},
		{rayAt(4, -2), rayAt(1, -1), -1},
		{rayAt(-2, 0), rayAt(-1, 1), -1},
		// At the first, at one in the middle, at the last element.
		{rayAt(5, -4), rayAt(5, -4), 0},
		{rayAt(-5, 4), rayAt(-5, 4), 0},
		{rayAt(2, 1), rayAt(3, 1), 2},
		{rayAt(-4, 1), rayAt(-3, 1), 2},
		{rayAt(2, 0), rayAt(3, 1), -1},
		{rayAt(1.5, 0.5), rayAt(3.5, 1.5), 5},
		{rayAt(1, 1), rayAt(4, 2), 5},
		// Behind a line, far places are not lost, but what is not a number is.
		{rayAt(notANumber(), 1), rayAt(notANumber(), 1), 0},
		{rayAt(infinity(), 1), rayAt(infinity(), 1), 0},
		{rayAt(1, notANumber()), rayAt(notANumber(), notANumber()), 2},
		{rayAt(1, -infinity()), rayAt(-infinity(), -infinity()), 2},
	} {
		wantEnd(t, line, c.r, c.want, c.index)
	}
}

// An aperture anywhere in the longest line takes what comes to it.
func TestApertureAtEachIndex(t *testing.T) {
	for at := range 32 {
		line := repeated(driftOf(1), 32)
		line[at] = apertureOf(0.5)
		wantEnd(t, line, impl.Ray{At: complex(1, 1), Energy: 2}, impl.Ray{At: complex(float32(at+1), 1), Phase: float32(2 * at), Energy: 2}, int64(at))
		lost := make([]int64, 32)
		lost[at] = 2
		wantBeam(t, line, raysAs([]float32{1, 1, 0, 2, 0, 0, 1, 1, 3, 1, 0, 0}), raysAs([]float32{0, 0, 32, 1}), lost...)
	}
}

func TestPassBeam(t *testing.T) {
	line := []impl.Element{apertureOf(2), kickOf(1), driftOf(1)}
	wantBeam(t, line, raysAt(1, -1, 3), raysAt(complex(2, 1), complex(0, 1)), 1, 0, 0)
	// Several rays, at several elements, in any order; those that are left keep it.
	line = []impl.Element{apertureOf(3), driftOf(1), apertureOf(3), apertureOf(2), driftOf(1), apertureOf(2)}
	rays := raysAt(complex(1, 0.5), 4, complex(2, 1), complex(3, 0), complex(0, 2), -5, complex(1, 1), complex(0.5, 0), complex(3, 1), complex(-1, 0.5))
	wantBeam(t, line, rays, raysAt(complex(2, 0.5), complex(0.5, 0), complex(0, 0.5)), 2, 0, 1, 2, 0, 2)
	wantBeam(t, line, raysAt(4, 5, -6), nil, 3, 0, 0, 0, 0, 0)
	wantBeam(t, line, nil, nil, 0, 0, 0, 0, 0, 0)
	wantBeam(t, nil, rays, rays)
	wantBeam(t, nil, nil, nil)
	wantBeam(t, []impl.Element{driftOf(1)}, raysAt(1, 1, 1), raysAt(1, 1, 1), 0)
}

func TestBeamsUpToTheLimit(t *testing.T) {
	line := []impl.Element{apertureOf(2), driftOf(1)}
	for _, n := range []int{0, 1, 2, 255, 256} {
		rays := repeated(rayAt(1, 1), n)
		wantBeam(t, line, rays, repeated(rayAt(2, 1), n), 0, 0)
		wantBeam(t, line, repeated(rayAt(3, 1), n), nil, int64(n), 0)
		wantTurns(t, line, rays, 3, nil, 0, 0, int64(n))
	}
	for _, n := range []int{257, 258, 1000} {
		rays := repeated(rayAt(3, 1), n)
		wantFailures(t, []badCall{
			{fmt.Sprintf("PassBeam of %d", n), call2(impl.PassBeam(line, rays))},
			{fmt.Sprintf("PassBeam of %d without elements", n), call2(impl.PassBeam(nil, rays))},
			{fmt.Sprintf("RunRing of %d", n), call2(impl.RunRing(line, rays, 2))},
			{fmt.Sprintf("RunRing of %d without turns", n), call2(impl.RunRing(line, rays, 0))},
		})
	}
}

// Each ray of a beam passes as it does alone.
func TestBeamsPassAsTheirRays(t *testing.T) {
	s := newSource()
	for range 300 {
		line, rays := s.line(s.Intn(33), true), s.rays(s.Intn(60))
		if !impl.ValidLine(line) {
			continue
		}
		lost, left := make([]int64, len(line)), []impl.Ray(nil)
		for _, r := range rays {
			end, index, _ := impl.PassLine(line, r)
			if index >= 0 {
				lost[index]++
			} else {
				left = append(left, end)
			}
		}
		wantBeam(t, line, rays, left, lost...)
	}
}

func TestRunRing(t *testing.T) {
	line := []impl.Element{apertureOf(2), kickOf(1), driftOf(1)}
	rays := raysAt(1, -1, 3)
	wantTurns(t, line, rays, 0, rays)
	wantTurns(t, line, rays, 1, raysAt(complex(2, 1), complex(0, 1)), 1)
	wantTurns(t, line, rays, 2, raysAt(complex(4, 2), complex(2, 2)), 1, 0)
	wantTurns(t, line, rays, 3, raysAt(complex(5, 3)), 1, 0, 1)
	wantTurns(t, line, rays, 4, nil, 1, 0, 1, 1)
	wantTurns(t, line, rays, 40, nil, slices.Concat([]int64{1, 0, 1, 1}, make([]int64, 36))...)
	wantTurns(t, line, nil, 2, nil, 0, 0)
	wantTurns(t, line, nil, 0, nil)
	// A turn counts what all elements of it lose.
	wide := []impl.Element{apertureOf(4), driftOf(2), apertureOf(4), kickOf(0), apertureOf(2)}
	wantTurns(t, wide, raysAt(5, 0, complex(4, 1), complex(1, 1), 2, complex(2, -1)), 2, raysAt(0, 2, complex(-2, -1)), 3, 0)
}

func TestTurnsOfRings(t *testing.T) {
	line, rays := []impl.Element{driftOf(1), apertureOf(30)}, []impl.Ray{{At: complex(0, 1)}, {At: complex(1, 0), Energy: 1}}
	for turns := int64(0); turns <= 40; turns++ {
		want, lost := []impl.Ray{{At: complex(float32(turns), 1)}, {At: 1, Phase: float32(turns), Energy: 1}}, make([]int64, turns)
		if turns > 30 {
			want, lost[30] = want[1:], 1
		}
		wantTurns(t, line, rays, turns, want, lost...)
	}
	for _, turns := range []int64{-1, 41, 42, -40, 1 << 32, math.MaxInt64, math.MinInt64} {
		wantFailures(t, []badCall{
			{fmt.Sprintf("RunRing of %d turns", turns), call2(impl.RunRing(line, rays, turns))},
			{fmt.Sprintf("RunRing of %d turns of no element", turns), call2(impl.RunRing(nil, rays, turns))},
			{fmt.Sprintf("RunRing of %d turns of no ray", turns), call2(impl.RunRing(line, nil, turns))},
		})
	}
}

// A ring goes around as its line is passed again and again, with resonators, too.
func TestRingsAreLinesPassedAgain(t *testing.T) {
	s := newSource()
	for range 200 {
		line, rays, turns := s.line(s.Intn(12), true), s.rays(s.Intn(30)), s.Int63n(41)
		if !impl.ValidLine(line) {
			continue
		}
		left, lost := rays, []int64(nil)
		for range turns {
			after, _, _ := impl.PassBeam(line, left)
			lost = append(lost, int64(len(left)-len(after)))
			left = after
		}
		wantTurns(t, line, rays, turns, left, lost...)
	}
}

func wantElements(t *testing.T, what string, got []impl.Element, ok bool, want []impl.Element) {
	t.Helper()
	numbers, kinds := numbersOfLine(got)
	wantedNumbers, wantedKinds := numbersOfLine(want)
	wantField(t, what, numbers, wantedNumbers)
	wantIntegers(t, what, kinds, ok, wantedKinds...)
}

func TestBackLine(t *testing.T) {
	const huge = math.MaxFloat32
	none, least := minusZero(), fromBits(1)
	for _, c := range []struct{ line, want []impl.Element }{
		{[]impl.Element{driftOf(1), lensOf(2)}, []impl.Element{lensOf(-2), driftOf(-1)}},
		{[]impl.Element{kickOf(3), apertureOf(4), driftOf(-5)}, []impl.Element{driftOf(5), apertureOf(4), kickOf(-3)}},
		{[]impl.Element{driftOf(0), kickOf(0), apertureOf(0)}, []impl.Element{apertureOf(0), kickOf(none), driftOf(none)}},
		{[]impl.Element{driftOf(none), kickOf(none), apertureOf(none)}, []impl.Element{apertureOf(none), kickOf(0), driftOf(0)}},
		{[]impl.Element{lensOf(least), driftOf(-least), kickOf(huge)}, []impl.Element{kickOf(-huge), driftOf(least), lensOf(-least)}},
		{[]impl.Element{{Kind: 0, Number: 1, Phase: 2}, {Kind: 1, Number: 3, Phase: none}, {Kind: 2, Number: 4, Phase: -5}, {Kind: 3, Number: 6, Phase: 7}}, []impl.Element{{Kind: 3, Number: -6, Phase: 7}, {Kind: 2, Number: 4, Phase: -5}, {Kind: 1, Number: -3, Phase: none}, {Kind: 0, Number: -1, Phase: 2}}},
		{repeated(driftOf(1), 32), repeated(driftOf(-1), 32)},
	} {
		got, ok := impl.BackLine(c.line)
		wantElements(t, fmt.Sprint("BackLine ", c.line), got, ok, c.want)
		again, ok := impl.BackLine(got)
		wantElements(t, fmt.Sprint("BackLine BackLine ", c.line), again, ok, c.line)
	}
}

// Also a resonator that adds nothing, or one among many others, has no way back.
func TestResonatorsHaveNoBackLine(t *testing.T) {
	for _, e := range []impl.Element{resonatorOf(1, 0.5), resonatorOf(0, 0), resonatorOf(minusZero(), 0), {Kind: 4}} {
		for at := range 32 {
			line := repeated(driftOf(1), 32)
			line[at] = e
			wantFailures(t, []badCall{
				{fmt.Sprintf("BackLine with %v at %d", e, at), call1(impl.BackLine(line))},
				{fmt.Sprintf("BackLine with %v at its end", e), call1(impl.BackLine(line[:at+1]))},
				{fmt.Sprintf("BackLine with %v first", e), call1(impl.BackLine(line[at:]))},
			})
		}
	}
}

// gentleLine has drifts, lenses and kicks that neither bring rays far away nor
// lose their places, and wide apertures.
func (s source) gentleLine(n int, kinds ...int64) []impl.Element {
	line := make([]impl.Element, n)
	for i := range line {
		e := impl.Element{Kind: kinds[s.Intn(len(kinds))], Number: float32(s.Float64() - 0.5), Phase: float32(s.Float64())}
		switch e.Kind {
		case impl.ElementLens:
			e.Number = float32(math.Copysign(2+float64(e.Number), float64(s.Intn(2))-0.5))
		case impl.ElementAperture:
			e.Number = 1e6
		}
		line[i] = e
	}
	return line
}

// mostOf is the greatest absolute value of what a ray has on its way.
func mostOf(line []impl.Element, r impl.Ray) float64 {
	most := float64(1)
	for i := range len(line) + 1 {
		end, _, _ := impl.PassLine(line[:i], r)
		for _, x := range numbersOfRays(end) {
			most = max(most, math.Abs(float64(x)))
		}
	}
	return most
}

func TestLinesLeadBackNearly(t *testing.T) {
	s := newSource()
	for range 1000 {
		line := s.gentleLine(s.Intn(33), impl.ElementDrift, impl.ElementLens, impl.ElementAperture, impl.ElementKick)
		back, one := impl.BackLine(line)
		r := s.rays(1)[0]
		end, _, two := impl.PassLine(line, r)
		start, index, three := impl.PassLine(back, end)
		wantEqual(t, "passing a line and its back line succeeds", one && two && three && index == -1, true)
		wantNear(t, fmt.Sprintf("%v behind %v and back", r, line), numbersOfRays(start), numbersOfRays(r), 1e-5*mostOf(line, r))
	}
}

// With small integers and powers of two, nothing is rounded.
func TestLinesLeadBackExactly(t *testing.T) {
	line := []impl.Element{driftOf(2), lensOf(4), kickOf(-3), driftOf(0.5), apertureOf(100), lensOf(-2), driftOf(8), kickOf(0.25), lensOf(0.5)}
	back, _ := impl.BackLine(line)
	for x := float32(-8); x <= 8; x++ {
		for y := float32(-4); y <= 4; y += 0.5 {
			r := impl.Ray{At: complex(x, y), Phase: y, Energy: x}
			end, _, _ := impl.PassLine(line, r)
			wantEqual(t, "whether the ray has gone away", impl.SameRay(end, r), false)
			start, index, ok := impl.PassLine(back, end)
			wantEqual(t, fmt.Sprintf("%v behind a line and back", r), start == r && index == -1 && ok, true)
		}
	}
}

// A line of drifts and lenses makes of a ray nearly what its matrix makes of it.
func TestLinesAreTheirMatricesNearly(t *testing.T) {
	s := newSource()
	for range 1000 {
		line := s.gentleLine(s.Intn(33), impl.ElementDrift, impl.ElementLens, impl.ElementAperture)
		r := s.rays(1)[0]
		m, one := impl.MatrixOf(line)
		end, index, two := impl.PassLine(line, r)
		wantEqual(t, "MatrixOf and PassLine succeed", one && two && index == -1, true)
		x, y := float64(real(r.At)), float64(imag(r.At))
		want := []float32{float32(float64(m[0])*x + float64(m[1])*y), float32(float64(m[2])*x + float64(m[3])*y)}
		wantNear(t, fmt.Sprintf("%v behind %v", r, line), partsOf(end.At), want, 1e-5*mostOf(line, r))
	}
}

// Kicks, apertures and resonators have the matrix that changes nothing: two rays
// differ behind a line by what the matrix makes of their difference.
func TestDifferencesOfRaysAreThoseOfMatricesNearly(t *testing.T) {
	s := newSource()
	for range 500 {
		line := s.gentleLine(s.Intn(33), 0, 1, 2, 3, 4)
		rays := s.rays(2)
		m, _ := impl.MatrixOf(line)
		ends, _, ok := impl.PassBeam(line, rays)
		wantEqual(t, "PassBeam succeeds, and loses nothing", ok && len(ends) == 2, true)
		x, y := float64(real(rays[0].At)-real(rays[1].At)), float64(imag(rays[0].At)-imag(rays[1].At))
		want := []float32{float32(float64(m[0])*x + float64(m[1])*y), float32(float64(m[2])*x + float64(m[3])*y)}
		wantNear(t, fmt.Sprintf("the difference of %v behind %v", rays, line), partsOf(ends[0].At-ends[1].At), want, 2e-5*max(mostOf(line, rays[0]), mostOf(line, rays[1])))
	}
}

// Drifts, lenses and kicks keep the area of a beam, and bring its centre to where
// a ray at the centre comes.
func TestLinesKeepAreasNearly(t *testing.T) {
	s := newSource()
	for range 300 {
		line, rays := s.gentleLine(s.Intn(33), impl.ElementDrift, impl.ElementLens, impl.ElementKick, impl.ElementAperture), s.rays(2+s.Intn(40))
		ends, _, _ := impl.PassBeam(line, rays)
		before, one := impl.AreaOf(rays)
		after, two := impl.AreaOf(ends)
		wantEqual(t, "AreaOf succeeds", one && two, true)
		most := 1.0
		for _, r := range rays {
			most = max(most, mostOf(line, r))
		}
		wantNear(t, fmt.Sprintf("the area of %d rays behind %v", len(rays), line), []float32{after}, []float32{before}, 1e-4*most*most)
		centre, _ := impl.CentreOf(rays)
		middle, _, _ := impl.PassLine(line, impl.Ray{At: centre})
		there, _ := impl.CentreOf(ends)
		wantNearby(t, "the centre behind a line", there, middle.At, 1e-5*most)
	}
}

// The area of a filled beam stays in a stable ring, turn after turn.
func TestStableRingsKeepFilledBeams(t *testing.T) {
	line := []impl.Element{driftOf(0.5), lensOf(1.5), driftOf(0.5), apertureOf(10)}
	rays, _ := impl.FillBeam(64, 1, 0.5)
	before, _ := impl.AreaOf(rays)
	wantNear(t, "the area of a filled beam", []float32{before}, []float32{0.25}, 1e-6)
	for turns := int64(0); turns <= 40; turns++ {
		left, _, ok := impl.RunRing(line, rays, turns)
		area, two := impl.AreaOf(left)
		wantEqual(t, "RunRing and AreaOf succeed with all rays", ok && two && len(left) == 64, true)
		wantNear(t, fmt.Sprintf("the area behind %d turns", turns), []float32{area}, []float32{before}, 1e-5)
	}
}

// In a ring that is not stable, rays get lost.
func TestUnstableRingsLoseRays(t *testing.T) {
	line := []impl.Element{driftOf(1), lensOf(0.2), apertureOf(10)}
	rays, _ := impl.FillBeam(64, 1, 0.5)
	wantEqual(t, "IsStable", impl.IsStable(line), false)
	left, _, _ := impl.RunRing(line, rays, 40)
	wantEqual(t, "how many rays are left behind 40 turns", len(left), 0)
}
