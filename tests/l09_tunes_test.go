package tests

import (
	"fmt"
	"math"
	"testing"

	"loop.example/g01226/impl"
)

// edgeLine is a drift and a lens, the trace of which is 1 and what is left of 1 less
// the quotient of long and focus.
func edgeLine(long, focus float32) []impl.Element {
	return []impl.Element{driftOf(long), lensOf(focus)}
}

func traceOfLine(line []impl.Element) float32 {
	m, _ := impl.MatrixOf(line)
	trace, _ := impl.TraceOf(m)
	return trace
}

// wantTune wants a tune, and a failure for a line that is not stable.
func wantTune(t *testing.T, line []impl.Element, stable bool, want float32) {
	t.Helper()
	tune, ok := impl.TuneOf(line)
	wantEqual(t, shortened("IsStable", line), impl.IsStable(line), stable)
	wantEqual(t, shortened("TuneOf", line, "succeeds"), ok, stable)
	wantNumber(t, shortened("TuneOf", line), tune, want)
}

func TestRingsAtTheEdgeOfStability(t *testing.T) {
	const huge = math.MaxFloat32
	none, nan, inf, least := minusZero(), notANumber(), infinity(), fromBits(1)
	step := float32(0x1p-23)
	for _, c := range []struct {
		line   []impl.Element
		trace  float32
		stable bool
	}{
		{nil, 2, false},
		{edgeLine(0, 1), 2, false}, {edgeLine(none, 1), 2, false}, {edgeLine(0, -1), 2, false}, {repeated(driftOf(1), 32), 2, false}, {[]impl.Element{lensOf(1)}, 2, false},
		{[]impl.Element{kickOf(1)}, 2, false}, {[]impl.Element{resonatorOf(1, 0)}, 2, false}, {[]impl.Element{apertureOf(0)}, 2, false},
		{edgeLine(4, 1), -2, false}, {edgeLine(-4, -1), -2, false}, {edgeLine(1, 0.25), -2, false}, {edgeLine(-0.5, -0.125), -2, false},
		// Just below and above 2. The sum is rounded: half a step below 2 is 2 again.
		{edgeLine(step, 1), below(2), true}, {edgeLine(-step, -1), below(2), true}, {edgeLine(step/2, 1), 2, false}, {edgeLine(step/4, 1), 2, false}, {edgeLine(least, 1), 2, false},
		{edgeLine(2*step, -1), above(2), false}, {edgeLine(step, -1), 2, false}, {edgeLine(-2*step, 1), above(2), false}, {edgeLine(3*step/2, 1), 2 - 2*step, true},
		{edgeLine(below(4), 1), 2 - below(4), true}, {edgeLine(-below(4), -1), 2 - below(4), true}, {edgeLine(below(below(4)), 1), 2 - below(below(4)), true},
		{edgeLine(above(4), 1), -above(above(2)), false}, {edgeLine(-above(4), -1), -above(above(2)), false}, {edgeLine(5, 1), -3, false}, {edgeLine(1, -1), 3, false},
		// Between both edges.
		{edgeLine(2, 1), 0, true}, {edgeLine(1, 1), 1, true}, {edgeLine(3, 1), -1, true}, {edgeLine(3.5, 1), -1.5, true}, {edgeLine(0.25, 1), 1.75, true},
		// Not finite.
		{edgeLine(huge, 0.001), -inf, false}, {edgeLine(huge, -0.001), inf, false}, {edgeLine(1e20, 1e-20), -inf, false}, {edgeLine(1, least), -inf, false}, {edgeLine(0, least), nan, false}, {[]impl.Element{lensOf(-least)}, nan, false},
		{[]impl.Element{driftOf(huge), driftOf(huge)}, 2, false}, {[]impl.Element{driftOf(huge), driftOf(huge), kickOf(0)}, nan, false},
		{[]impl.Element{lensOf(least), driftOf(1)}, nan, false},
	} {
		wantNumber(t, fmt.Sprint("the trace of ", c.line), traceOfLine(c.line), c.trace)
		wantEqual(t, fmt.Sprint("IsStable ", c.line), impl.IsStable(c.line), c.stable)
		tune, ok := impl.TuneOf(c.line)
		wantEqual(t, fmt.Sprint("TuneOf succeeds for ", c.line), ok, c.stable)
		if !c.stable {
			wantNumber(t, fmt.Sprint("TuneOf ", c.line), tune, 0)
		}
	}
}

// Where a line is not valid, it is not stable, though its trace would be 0.
func TestInvalidLinesAreNotStable(t *testing.T) {
	turning := edgeLine(2, 1)
	wantTune(t, turning, true, 0.25)
	for _, e := range []impl.Element{lensOf(0), lensOf(minusZero()), apertureOf(-1), kickOf(infinity()), driftOf(notANumber()), {Kind: 5}, {Kind: -1}, {Kind: 3, Phase: infinity()}, {Kind: 2, Phase: notANumber()}} {
		wantTune(t, append(edgeLine(2, 1), e), false, 0)
		wantTune(t, append([]impl.Element{e}, turning...), false, 0)
		wantTune(t, []impl.Element{e}, false, 0)
	}
	for n := range 20 {
		wantTune(t, append(edgeLine(2, 1), repeated(kickOf(1), n)...), true, 0.25)
	}
	wantTune(t, append(edgeLine(2, 1), repeated(kickOf(1), 30)...), true, 0.25)
	wantTune(t, append(edgeLine(2, 1), repeated(kickOf(1), 31)...), false, 0)
}

func TestTuneOf(t *testing.T) {
	// A calculation outside of this project has told the bits.
	for _, c := range []struct {
		line []impl.Element
		want float32
	}{
		// b is greater than 0, and less than 0.
		{edgeLine(2, 1), 0.25}, {edgeLine(-2, -1), -0.25}, {edgeLine(1, 0.5), 0.25}, {edgeLine(-8, -4), -0.25},
		{edgeLine(1, 1), fromBits(0x3e2aaaab)}, {edgeLine(-1, -1), -fromBits(0x3e2aaaab)},
		{edgeLine(3, 1), fromBits(0x3eaaaaab)}, {edgeLine(-3, -1), -fromBits(0x3eaaaaab)},
		// c is 1 nearly, and -1 nearly.
		{edgeLine(0x1p-23, 1), fromBits(0x38667b21)}, {edgeLine(-0x1p-23, -1), -fromBits(0x38667b21)},
		{edgeLine(below(4), 1), fromBits(0x3efff5d0)}, {edgeLine(-below(4), -1), -fromBits(0x3efff5d0)},
		// Rounding has taken away all of c, but b is still less than 0, or greater.
		{[]impl.Element{driftOf(-0x1p26), lensOf(-1), lensOf(1)}, -fromBits(0x3e2aaaab)}, {[]impl.Element{driftOf(0x1p26), lensOf(1), lensOf(-1)}, fromBits(0x3e2aaaab)},
		// It has taken away all of b, which is a zero then.
		{[]impl.Element{driftOf(0x1p26), lensOf(1), lensOf(-1), lensOf(0x1p26), driftOf(0x1p26)}, fromBits(0x3eaaaaab)},
	} {
		wantTune(t, c.line, true, c.want)
	}
}

// With a lens first, b is the same, and with other elements between, too.
func TestTunesOfTurnedLines(t *testing.T) {
	for _, long := range []float32{1, 2, 3, -1, -2, -3} {
		focus := float32(math.Copysign(1, float64(long)))
		want, _ := impl.TuneOf(edgeLine(long, focus))
		wantTune(t, []impl.Element{lensOf(focus), driftOf(long)}, true, want)
		wantTune(t, []impl.Element{lensOf(focus), kickOf(3), apertureOf(0), driftOf(long), resonatorOf(1, 1)}, true, want)
		wantTune(t, []impl.Element{driftOf(long / 2), lensOf(focus), driftOf(long / 2)}, true, want)
		wantTune(t, []impl.Element{lensOf(2 * focus), driftOf(long), lensOf(2 * focus)}, true, want)
	}
}

// Products of matrices that are turns by some turns have these as tunes, nearly:
// a drift, a lens and a drift turn as much, if they are as long as they must be.
func TestTunesAreTurnsNearly(t *testing.T) {
	for parts := -49; parts <= 49; parts++ {
		if parts == 0 {
			continue
		}
		turns := float64(parts) / 100
		sine, cosine := math.Sincos(2 * math.Pi * turns)
		long, focus := float32((1-cosine)/sine), float32(1/sine)
		line := []impl.Element{driftOf(long), lensOf(focus), driftOf(long)}
		tune, ok := impl.TuneOf(line)
		wantEqual(t, "TuneOf succeeds", ok, true)
		wantNear(t, fmt.Sprintf("the tune of %v turns", turns), []float32{tune}, []float32{float32(turns)}, 1e-5)
		m, _ := impl.MatrixOf(line)
		wantNear(t, fmt.Sprintf("the matrix of %v turns", turns), m, []float32{float32(cosine), float32(sine), float32(-sine), float32(cosine)}, 1e-4)
	}
}

// The back line has the opposite tune, nearly.
func TestBackLinesHaveOppositeTunesNearly(t *testing.T) {
	s, stable := newSource(), 0
	for range 2000 {
		line := s.gentleLine(1+s.Intn(8), 0, 1, 2, 3)
		back, _ := impl.BackLine(line)
		if trace := math.Abs(float64(traceOfLine(line))); trace > 1.999 {
			continue
		}
		stable++
		there, one := impl.TuneOf(line)
		again, two := impl.TuneOf(back)
		wantEqual(t, "TuneOf succeeds", one && two, true)
		wantNear(t, fmt.Sprint("the tune of the back line of ", line), []float32{again}, []float32{-there}, 1e-4)
	}
	wantEqual(t, "whether lines are stable", stable > 200, true)
}

// So many turns does a ray swing: behind each passage, its place is what a swing
// with this tune makes of the two before.
func TestRaysSwingByTheTune(t *testing.T) {
	s, stable := newSource(), 0
	for range 500 {
		line := s.gentleLine(1+s.Intn(6), 0, 1)
		tune, ok := impl.TuneOf(line)
		if !ok || math.Abs(float64(tune)) < 0.01 {
			continue
		}
		stable++
		twice := 2 * math.Cos(2*math.Pi*float64(tune))
		r := s.rays(1)
		for turn := int64(0); turn < 38; turn++ {
			var x [3]float64
			for i := range x {
				after, _, _ := impl.RunRing(line, r, turn+int64(i))
				x[i] = float64(real(after[0].At))
			}
			most := max(1, math.Abs(x[0]), math.Abs(x[1]), math.Abs(x[2]))
			wantNear(t, fmt.Sprintf("the swing behind %v", line), []float32{float32(x[2])}, []float32{float32(twice*x[1] - x[0])}, 1e-3*most)
		}
	}
	wantEqual(t, "whether lines are stable", stable > 50, true)
}
