package tests

import (
	"testing"

	"loop.example/g01226/impl"
)

// callsOfOneField are all functions of chapter 3 with one field.
func callsOfOneField(g impl.Grid, field []float32) []badCall {
	n := len(field)
	return []badCall{
		{inGrid("MeanOf", g, n), call1(impl.MeanOf(g, field))},
		{inGrid("WithoutMean", g, n), call1(impl.WithoutMean(g, field))},
		{inGrid("LaplaceOf", g, n), call1(impl.LaplaceOf(g, field))},
		{inGrid("SolvePotential", g, n), call1(impl.SolvePotential(g, field, 1))},
		{inGrid("SolvePotential without rounds", g, n), call1(impl.SolvePotential(g, field, 0))},
		{inGrid("CoarseField", g, n), call2(impl.CoarseField(g, field))},
		{inGrid("FineField", g, n), call2(impl.FineField(g, field))},
		{inGrid("FieldsOf", g, n), call2(impl.FieldsOf(g, field))},
	}
}

// callsOfTwoFields are all functions of chapter 3 with two fields.
func callsOfTwoFields(g impl.Grid, v, charge []float32) []badCall {
	n, m := len(v), len(charge)
	return []badCall{
		{inGrid("ResidualOf", g, n, m), call1(impl.ResidualOf(g, v, charge))},
		{inGrid("SweepColour", g, n, m), call1(impl.SweepColour(g, v, charge, 0))},
		{inGrid("SweepShared", g, n, m), call1(impl.SweepShared(g, v, charge, 1, 2))},
		{inGrid("SweepRows", g, n, m), call1(impl.SweepRows(g, v, charge))},
		{inGrid("TwoGrids", g, n, m), call1(impl.TwoGrids(g, v, charge, 1))},
		{inGrid("TwoGrids without rounds", g, n, m), call1(impl.TwoGrids(g, v, charge, 0))},
		{inGrid("FieldEnergy", g, n, m), call1(impl.FieldEnergy(g, v, charge))},
	}
}

func TestGridsOfPotentialsMustBeValid(t *testing.T) {
	for _, g := range invalidGrids() {
		for _, n := range []int{0, 9, 12, 16, 64, 68, 144} {
			field := repeated(float32(1), n)
			wantFailures(t, callsOfOneField(g, field))
			wantFailures(t, callsOfTwoFields(g, field, field))
		}
		wantFailures(t, callsOfOneField(g, nil))
		wantFailures(t, callsOfTwoFields(g, nil, nil))
	}
	// A grid that is too small is not made valid by being doubled.
	for _, g := range []impl.Grid{{Wide: 2, High: 2}, {Wide: 3, High: 4}, {Wide: 4, High: 3}, {Wide: 2, High: 8}} {
		wantFailures(t, callsOfOneField(g, make([]float32, g.Wide*g.High)))
		wantFailures(t, callsOfOneField(g, make([]float32, 4*g.Wide*g.High)))
	}
}

// In these grids, all functions succeed with fields of the right length.
func TestPotentialsMustBeOfTheGrid(t *testing.T) {
	for _, g := range append(validGrids(), impl.Grid{Wide: 8, High: 8}) {
		points := int(g.Wide * g.High)
		right := repeated(float32(1), points)
		for _, n := range []int{0, 1, points - 1, points + 1, points / 4, 2 * points, 4 * points} {
			wrong := repeated(float32(1), n)
			wantFailures(t, callsOfOneField(g, wrong))
			wantFailures(t, callsOfTwoFields(g, wrong, right))
			wantFailures(t, callsOfTwoFields(g, right, wrong))
			wantFailures(t, callsOfTwoFields(g, wrong, wrong))
		}
		wantFailures(t, callsOfOneField(g, nil))
		wantFailures(t, callsOfTwoFields(g, nil, right))
		wantFailures(t, callsOfTwoFields(g, right, nil))
	}
}

// A grid that all functions take, with the same fields.
func TestGridsThatAllFunctionsTake(t *testing.T) {
	g := impl.Grid{Wide: 8, High: 8}
	for _, x := range oddNumbers() {
		field := repeated(x, 64)
		for _, c := range append(callsOfOneField(g, field), callsOfTwoFields(g, field, field)...) {
			wantEqual(t, c.what+" succeeds", c.results[len(c.results)-1].(bool), true)
		}
	}
}
