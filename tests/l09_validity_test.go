package tests

import (
	"fmt"
	"math"
	"testing"

	"loop.example/g01226/impl"
)

// invalidElements have one number each that a valid element does not have.
func invalidElements() []impl.Element {
	var list []impl.Element
	for _, x := range badNumbers() {
		for kind := range int64(5) {
			list = append(list, impl.Element{Kind: kind, Number: x}, impl.Element{Kind: kind, Number: 1, Phase: x}, impl.Element{Kind: kind, Number: x, Phase: x})
		}
	}
	for _, kind := range []int64{-1, 5, 6, -5, 256, 1 << 32, 1<<32 + 1, math.MaxInt64, math.MinInt64} {
		list = append(list, impl.Element{Kind: kind, Number: 1}, impl.Element{Kind: kind})
	}
	for _, x := range []float32{-1, -fromBits(1), -math.MaxFloat32} {
		list = append(list, apertureOf(x), impl.Element{Kind: impl.ElementAperture, Number: x, Phase: 1})
	}
	return append(list, lensOf(0), lensOf(minusZero()), impl.Element{Kind: impl.ElementLens, Phase: 1})
}

// invalidLines are too long, or have an invalid element first, last or alone.
func invalidLines() [][]impl.Element {
	lines := [][]impl.Element{repeated(driftOf(1), 33), repeated(lensOf(1), 34), repeated(apertureOf(1), 1000), append(repeated(kickOf(1), 32), resonatorOf(1, 1))}
	for _, e := range invalidElements() {
		lines = append(lines, []impl.Element{e}, []impl.Element{e, driftOf(1)}, []impl.Element{driftOf(2), lensOf(1), e}, append(repeated(driftOf(1), 31), e))
	}
	return lines
}

// callsWithLine are all functions with a line that tell whether they fail, whose
// other arguments are valid.
func callsWithLine(line []impl.Element) []badCall {
	rays := raysAt(1, complex(2, 3))
	name := func(of string) string { return shortened(of, line) }
	return []badCall{
		{name("PassLine"), call2(impl.PassLine(line, rays[1]))},
		{name("PassBeam"), call2(impl.PassBeam(line, rays))},
		{name("PassBeam without rays"), call2(impl.PassBeam(line, nil))},
		{name("RunRing"), call2(impl.RunRing(line, rays, 2))},
		{name("RunRing without turns"), call2(impl.RunRing(line, rays, 0))},
		{name("RunRing without rays"), call2(impl.RunRing(line, nil, 1))},
		{name("BackLine"), call1(impl.BackLine(line))},
		{name("MatrixOf"), call1(impl.MatrixOf(line))},
	}
}

func TestLinesMustBeValid(t *testing.T) {
	for _, line := range invalidLines() {
		wantEqual(t, shortened("ValidLine", line), impl.ValidLine(line), false)
		wantEqual(t, shortened("IsStable", line), impl.IsStable(line), false)
		wantFailures(t, callsWithLine(line))
		wantFailures(t, []badCall{{shortened("TuneOf", line), call1(impl.TuneOf(line))}})
	}
	for _, e := range invalidElements() {
		wantFailures(t, []badCall{{fmt.Sprint("PassElement ", e), callOfElement(impl.PassElement(e, impl.Ray{At: complex(7, 8), Phase: 9, Energy: 10}))}})
	}
}

// A ray that is lost before an invalid element does not make the line valid.
func TestInvalidElementsBehindApertures(t *testing.T) {
	for _, e := range invalidElements() {
		line := []impl.Element{apertureOf(0), e}
		wantFailures(t, callsWithLine(line))
	}
}

// What fails above does so for one reason alone.
func TestLinesTakeValidElements(t *testing.T) {
	for _, x := range edgeNumbers() {
		for _, phase := range edgeNumbers() {
			for kind := range int64(4) {
				e := impl.Element{Kind: kind, Number: x, Phase: phase}
				if !elementValidity(kind, x) {
					continue
				}
				wantSuccesses(t, callsWithLine([]impl.Element{e}))
				wantSuccesses(t, []badCall{{fmt.Sprint("PassElement ", e), callOfElement(impl.PassElement(e, rayAt(1, 1)))}})
			}
			wantSuccesses(t, []badCall{{"MatrixOf a resonator", call1(impl.MatrixOf([]impl.Element{resonatorOf(x, phase)}))}})
		}
	}
	for n := range 33 {
		wantSuccesses(t, callsWithLine(repeated(driftOf(1), n)))
		wantSuccesses(t, callsWithLine(repeated(lensOf(-1), n)))
	}
}

// Rays may have any numbers. They pass all elements.
func TestLinesTakeRaysOfAnyNumbers(t *testing.T) {
	line := []impl.Element{driftOf(1), kickOf(0.5), resonatorOf(2, 0.25), lensOf(3), apertureOf(2), driftOf(-1)}
	for _, x := range oddNumbers() {
		for _, y := range oddNumbers() {
			for _, numbers := range [][]float32{{x, y, 1, 1}, {1, 1, x, y}, {y, 1, 1, x}, {1, x, y, 1}} {
				rays := raysAs(append(numbers, 1, 1, 1, 1))
				a := beamWith(line, rays, numbers, []float32{1, 2, 3, 4}, 3, 1, 1, 1)
				wantBeamWords(t, a, beamsWanted().wordsOf(a))
			}
		}
	}
}
