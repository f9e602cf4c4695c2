package tests

import (
	"testing"

	"loop.example/g01226/impl"
)

// callsWithOneField are all functions of chapter 8 with one field, whose other
// arguments are valid.
func callsWithOneField(g impl.Grid, field []float32) []badCall {
	n := len(field)
	return []badCall{
		{inGrid("RowOf", g, n), call1(impl.RowOf(g, field, 0))},
		{inGrid("MeanRow", g, n), call1(impl.MeanRow(g, field))},
		{inGrid("ModeOf", g, n), call1(impl.ModeOf(g, field, 1))},
		{inGrid("ModePower", g, n), call1(impl.ModePower(g, field, 1))},
		{inGrid("PowersOfRows", g, n), call1(impl.PowersOfRows(g, field))},
		{inGrid("KeepModes", g, n), call1(impl.KeepModes(g, field, 0, 0))},
		{inGrid("KeepModes 0 to 2", g, n), call1(impl.KeepModes(g, field, 0, 2))},
		{inGrid("TwoSpectrum", g, n), call1(impl.TwoSpectrum(g, field))},
		{inGrid("ExactPotential", g, n), call1(impl.ExactPotential(g, field))},
		{inGrid("RingPowers", g, n), call1(impl.RingPowers(g, field))},
		{inGrid("StrongMode", g, n), call2(impl.StrongMode(g, field))},
	}
}

func callsWithTwoFields(g impl.Grid, a, b []float32) []badCall {
	n, m := len(a), len(b)
	return []badCall{
		{inGrid("FieldDot", g, n, m), call1(impl.FieldDot(g, a, b))},
		{inGrid("SlideOf", g, n, m), call1(impl.SlideOf(g, a, b, 1))},
		{inGrid("SlideOf of the mode 0", g, n, m), call1(impl.SlideOf(g, a, b, 0))},
	}
}

// callsWithGridAlone are those functions that have no field.
func callsWithGridAlone(g impl.Grid) []badCall {
	return []badCall{
		{inGrid("WaveField", g), call1(impl.WaveField(g, 0, 1, 0))},
		{inGrid("WaveField of the mode 1", g), call1(impl.WaveField(g, 1, 1, 0))},
		{inGrid("WaveParticles", g), call1(impl.WaveParticles(g, 1, 0, 1, 0))},
		{inGrid("WaveParticles of the mode 1", g), call1(impl.WaveParticles(g, 2, 1, 1, 0))},
		{inGrid("ModeNumber", g), call1(impl.ModeNumber(g, 0, 0))},
		{inGrid("ModeNumber 1, 1", g), call1(impl.ModeNumber(g, 1, 1))},
	}
}

func callsWithSpectrum(g impl.Grid, spectrum []complex64) []badCall {
	return []badCall{{inGrid("FieldOfTwo", g, len(spectrum)), call1(impl.FieldOfTwo(g, spectrum))}}
}

// callsWithSizes are all functions that take finite numbers alone.
func callsWithSizes(g impl.Grid, size, other float32) []badCall {
	return []badCall{
		{inGrid("WaveField", g, size, other), call1(impl.WaveField(g, 1, size, other))},
		{inGrid("WaveField of the mode 0", g, size, other), call1(impl.WaveField(g, 0, size, other))},
		{inGrid("WaveParticles", g, size, other), call1(impl.WaveParticles(g, 4, 1, size, other))},
		{inGrid("WaveParticles of the mode 0", g, size, other), call1(impl.WaveParticles(g, 1, 0, size, other))},
	}
}

func TestGridsOfWavesMustBeValid(t *testing.T) {
	for _, g := range invalidGrids() {
		wantFailures(t, callsWithGridAlone(g))
		for _, n := range []int{0, 1, 9, 12, 16, 64, 68, 144, 256, 272, 289} {
			field := repeated(float32(1), n)
			wantFailures(t, callsWithOneField(g, field))
			wantFailures(t, callsWithTwoFields(g, field, field))
			wantFailures(t, callsWithSpectrum(g, reals(field...)))
		}
		wantFailures(t, callsWithOneField(g, nil))
		wantFailures(t, callsWithTwoFields(g, nil, nil))
		wantFailures(t, callsWithSpectrum(g, nil))
	}
}

func TestFieldsOfWavesMustBeOfTheGrid(t *testing.T) {
	for _, g := range allGrids() {
		points := int(g.Wide * g.High)
		right := repeated(float32(1), points)
		for _, n := range []int{0, 1, int(g.Wide), int(g.High), points - 1, points + 1, points - int(g.Wide), points + int(g.Wide), points / 4, 2 * points, 300} {
			if n == points {
				continue
			}
			wrong := repeated(float32(1), n)
			wantFailures(t, callsWithOneField(g, wrong))
			wantFailures(t, callsWithTwoFields(g, wrong, right))
			wantFailures(t, callsWithTwoFields(g, right, wrong))
			wantFailures(t, callsWithTwoFields(g, wrong, wrong))
			wantFailures(t, callsWithSpectrum(g, reals(wrong...)))
		}
		wantFailures(t, callsWithOneField(g, nil))
		wantFailures(t, callsWithTwoFields(g, nil, right))
		wantFailures(t, callsWithTwoFields(g, right, nil))
		wantFailures(t, callsWithSpectrum(g, nil))
	}
}

func TestSizesOfWavesMustBeFinite(t *testing.T) {
	for _, g := range validGrids() {
		for _, x := range badNumbers() {
			for _, other := range append(badNumbers(), 0, 1, -2.5) {
				wantFailures(t, callsWithSizes(g, x, other))
				wantFailures(t, callsWithSizes(g, other, x))
			}
		}
		for _, x := range edgeNumbers() {
			for _, other := range edgeNumbers() {
				wantSuccesses(t, callsWithSizes(g, x, other))
			}
		}
	}
}

// In each grid, all functions succeed, so that what fails above does so for one
// reason alone.
func TestWavesTakeValidArguments(t *testing.T) {
	for _, g := range allGrids() {
		field := numbered(g)
		wantSuccesses(t, callsWithOneField(g, field))
		wantSuccesses(t, callsWithTwoFields(g, field, field))
		wantSuccesses(t, callsWithGridAlone(g))
		wantSuccesses(t, callsWithSpectrum(g, reals(field...)))
	}
}

// Fields and spectra may have any numbers. Only the strongest of modes that are
// not-a-numbers does not exist.
func TestWavesTakeFieldsOfAnyNumbers(t *testing.T) {
	g := impl.Grid{Wide: 5, High: 6}
	for _, x := range oddNumbers() {
		field := repeated(x, 30)
		field[7] = 1
		for _, c := range callsWithOneField(g, field) {
			if c.what != inGrid("StrongMode", g, 30) || finite(x) {
				wantSuccesses(t, []badCall{c})
			}
		}
		wantSuccesses(t, callsWithTwoFields(g, field, field))
		wantSuccesses(t, callsWithSpectrum(g, reals(field...)))
	}
}
