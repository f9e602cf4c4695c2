package tests

import (
	"fmt"
	"math"
	"slices"
	"testing"

	"loop.example/g01226/impl"
)

func wantSwept(t *testing.T, g impl.Grid, v, charge []float32, colour int64, want []float32) {
	t.Helper()
	got, ok := impl.SweepColour(g, v, charge, colour)
	wantSolved(t, inGrid("SweepColour", g, colour, v, charge), got, ok, want)
}

func TestSweepColourOfOneCharge(t *testing.T) {
	g := impl.Grid{Wide: 4, High: 4}
	want := make([]float32, 16)
	for _, i := range []int{0, 2, 7, 8, 10, 13, 15} {
		want[i] = -0.25
	}
	want[5] = 3.75
	wantSwept(t, g, make([]float32, 16), fieldOf(g, map[int64]float32{5: 16}), 0, want)
	want = make([]float32, 16)
	for _, i := range []int{1, 3, 4, 6, 9, 11, 12, 14} {
		want[i] = -0.25
	}
	wantSwept(t, g, make([]float32, 16), fieldOf(g, map[int64]float32{5: 16}), 1, want)
}

// Only the points of the colour change, and the others keep any numbers.
func TestSweepColourLeavesTheOtherColour(t *testing.T) {
	odd := oddNumbers()
	for _, g := range allGrids() {
		for colour := range int64(2) {
			v, charge := make([]float32, g.Wide*g.High), make([]float32, g.Wide*g.High)
			for i := range v {
				v[i] = odd[i%len(odd)]
			}
			got, ok := impl.SweepColour(g, v, charge, colour)
			wantEqual(t, inGrid("SweepColour succeeds", g), ok && len(got) == len(v), true)
			for i, x := range got {
				if (int64(i)%g.Wide+int64(i)/g.Wide)%2 != colour {
					wantNumber(t, inGrid("SweepColour of the other colour", g, i), x, v[i])
				}
			}
		}
	}
}

// Around edges of odd grids, points take what points of their colour have become.
func TestSweepColourOfOddSides(t *testing.T) {
	wide, high := impl.Grid{Wide: 5, High: 4}, impl.Grid{Wide: 4, High: 5}
	zeros, charge := make([]float32, 20), fieldOf(wide, map[int64]float32{0: 20})
	want := fieldOf(wide, map[int64]float32{0: 4.75, 4: 0.9375})
	for _, i := range []int{2, 6, 8, 10, 12, 16, 18} {
		want[i] = -0.25
	}
	want[14] = 0.25 * -1.25
	wantSwept(t, wide, zeros, charge, 0, want)
	want = fieldOf(high, map[int64]float32{0: 4.75, 16: 0.9375})
	for _, i := range []int{2, 5, 7, 8, 10, 13, 15} {
		want[i] = -0.25
	}
	want[18] = 0.25 * -1.25
	wantSwept(t, high, zeros, charge, 0, want)
	// The first point takes what the last one has been.
	v := fieldOf(wide, map[int64]float32{4: 8})
	want = fieldOf(wide, map[int64]float32{0: 2, 4: 0.5})
	wantSwept(t, wide, v, zeros, 0, want)
}

func TestSweepColourAddsInOrder(t *testing.T) {
	g, huge := impl.Grid{Wide: 5, High: 4}, float32(math.MaxFloat32)
	for _, c := range []struct{ charge, left, right, low, high, want float32 }{
		{8, 4, 2, 1, 1, 4},
		{1e30, -1e30, 4, 2, 2, 2},
		{4, 1e30, -1e30, 2, 2, 1},
		{4, 2, 1e30, -1e30, 2, 0.5},
		{4, 2, 2, 1e30, -1e30, 0},
		{16777216, 1, 1, 1, 1, 4194304},
		{1, 1, 1, 1, 16777216, 4194305},
		// The sum is not multiplied before its end.
		{huge, huge, -huge, -huge, 0, infinity()},
		{-huge, -huge, huge, huge, 0, -infinity()},
		{huge, 0, 0, 0, 0, huge / 4},
		{minusZero(), minusZero(), minusZero(), minusZero(), minusZero(), minusZero()},
		{minusZero(), 0, minusZero(), minusZero(), minusZero(), 0},
		{fromBits(2), 0, 0, 0, 0, 0},
		{fromBits(3), 0, 0, 0, 0, fromBits(1)},
		{fromBits(2), fromBits(1), fromBits(1), fromBits(1), fromBits(1), fromBits(2)},
		{-fromBits(1), 0, 0, 0, 0, minusZero()},
		{1, infinity(), 2, 3, 4, infinity()},
		{1, infinity(), 2, 3, -infinity(), notANumber()},
		{1, 2, 3, notANumber(), 5, notANumber()},
	} {
		// Two opposite charges make no mean, so that the level is the charge.
		charge := fieldOf(g, map[int64]float32{7: c.charge, 8: -c.charge})
		if c.charge == 0 {
			charge = repeated(c.charge, 20)
		}
		got, ok := impl.SweepColour(g, aroundPoint(g, notANumber(), c.left, c.right, c.low, c.high), charge, 1)
		wantEqual(t, "SweepColour succeeds", ok && len(got) == 20, true)
		wantNumber(t, fmt.Sprintf("SweepColour %v", c), got[7], c.want)
	}
}

func TestSweepColourAgainstOtherNumbers(t *testing.T) {
	s := newSource()
	for range 20 {
		for _, g := range allGrids() {
			v, charge := s.anyField(g), s.anyField(g)
			wantSwept(t, g, v, charge, 0, sweepWanted(g, v, charge, 0))
			wantSwept(t, g, v, charge, 1, sweepWanted(g, v, charge, 1))
		}
	}
}

func TestSweepColourAgainstASeparateCalculation(t *testing.T) {
	for _, c := range []struct {
		g      impl.Grid
		colour int64
		want   string
	}{
		{impl.Grid{Wide: 5, High: 4}, 0, "c01e2223,c0d55555,c0cc6667,c1500000,3fbf5556,bf2aaaab,bf23332c,c0555555,bf388885,414aaaab,401c888a,415aaaab,3fe3bbba,beaaaaab,40790001,408aaaab,408e4445,c0c00000,bfb1999b,40155555"},
		{impl.Grid{Wide: 5, High: 5}, 0, "c086147b,c0d55555,c09b69d0,c1500000,c0248889,bf2aaaab,bee147a8,c0555555,bf05f929,414aaaab,40292c60,415aaaab,3ffd036a,beaaaaab,40846667,408aaaab,40a740db,c0c00000,407e81b4,40155555,c0a7999a,c08aaaab,c009ddde,40f55555,c033c291"},
		{impl.Grid{Wide: 5, High: 5}, 1, "c1555555,c0c369d1,40955555,400e81b4,40f55555,c0417e4a,c08aaaab,3f4f5c28,40155555,40971110,c0c00000,40a740db,408aaaab,4091eb86,beaaaaab,40292c5f,415aaaab,40bc9631,414aaaab,3f788888,c0555555,be99999c,bf2aaaab,40077778,c1500000"},
		{impl.Grid{Wide: 6, High: 4}, 1, "c1555555,c08a8e39,40955555,3fd5c71c,40f55555,406038e4,bf7f1c6a,c0555555,407038e5,414aaaab,4122b8e4,415aaaab,408aaaab,3ed71c76,beaaaaab,40c81c73,415aaaab,4101638f,404ae38f,40155555,befe38e8,c08aaaab,40b81c72,40f55555"},
	} {
		points := int(c.g.Wide * c.g.High)
		got, ok := impl.SweepColour(c.g, patterned(points, 2), patterned(points, 1), c.colour)
		wantText(t, inGrid("SweepColour", c.g, c.colour), got, ok, c.want)
	}
}

// Any number of workers makes the sweep that SweepColour makes alone.
func TestWorkersMakeTheSameSweeps(t *testing.T) {
	s := newSource()
	for range 4 {
		for _, g := range evenGrids() {
			v, charge := s.anyField(g), s.anyField(g)
			for colour := range int64(2) {
				want := sweepWanted(g, v, charge, int(colour))
				wantSwept(t, g, v, charge, colour, want)
				for workers := int64(1); workers <= 8; workers++ {
					got, ok := impl.SweepShared(g, v, charge, colour, workers)
					wantSolved(t, inGrid("SweepShared", g, colour, workers), got, ok, want)
				}
			}
		}
	}
}

// Odd sides are no grids for workers, but for one alone who sweeps.
func TestWorkersTakeNoOddSides(t *testing.T) {
	for _, g := range allGrids() {
		field, even := numbered(g), g.Wide%2 == 0 && g.High%2 == 0
		for colour := range int64(2) {
			_, alone := impl.SweepColour(g, field, field, colour)
			wantEqual(t, inGrid("SweepColour succeeds", g, colour), alone, true)
			for workers := int64(1); workers <= 8; workers++ {
				got, ok := impl.SweepShared(g, field, field, colour, workers)
				wantEqual(t, inGrid("SweepShared succeeds", g, colour, workers), ok, even)
				wantEqual(t, inGrid("SweepShared has numbers", g, colour, workers), len(got) > 0, even)
			}
		}
	}
}

func TestColoursAndWorkersHaveLimits(t *testing.T) {
	beyond := []int64{-1, 2, 3, -2, 1 << 32, math.MaxInt64, math.MinInt64}
	for _, g := range []impl.Grid{{Wide: 4, High: 4}, {Wide: 16, High: 16}, {Wide: 5, High: 5}} {
		field := numbered(g)
		for _, colour := range beyond {
			wantFailures(t, []badCall{
				{inGrid("SweepColour", g, colour), call1(impl.SweepColour(g, field, field, colour))},
				{inGrid("SweepShared", g, colour), call1(impl.SweepShared(g, field, field, colour, 1))},
			})
		}
		for _, workers := range []int64{0, -1, 9, 10, -8, 1 << 32, math.MaxInt64, math.MinInt64} {
			wantFailures(t, []badCall{{inGrid("SweepShared", g, workers), call1(impl.SweepShared(g, field, field, 0, workers))}})
			wantFailures(t, []badCall{{inGrid("SweepShared", g, workers), call1(impl.SweepShared(g, field, field, 1, workers))}})
		}
	}
}

// solvedFields are a potential of small integers and the charge it solves.
func (s source) solvedFields(g impl.Grid) (v, charge []float32) {
	v = s.exactField(g)
	charge, _ = impl.LaplaceOf(g, v)
	return v, charge
}

// Sweeps of a solved field change nothing, and its residual stays nothing.
func TestSweepsLeaveASolvedField(t *testing.T) {
	s := newSource()
	for _, g := range allGrids() {
		v, charge := s.solvedFields(g)
		residual, ok := impl.ResidualOf(g, v, charge)
		wantNumber(t, inGrid("ResidualOf a solved field", g), residual, 0)
		wantEqual(t, inGrid("ResidualOf succeeds", g), ok, true)
		wantSwept(t, g, v, charge, 0, v)
		wantSwept(t, g, v, charge, 1, v)
		rows, ok := impl.SweepRows(g, v, charge)
		wantEqual(t, inGrid("SweepRows succeeds", g), ok, true)
		wantNear(t, inGrid("SweepRows of a solved field", g), rows, v, 1e-4)
		if g.Wide%2 == 0 && g.High%2 == 0 && g.Wide >= 8 && g.High >= 8 {
			both, ok := impl.TwoGrids(g, v, charge, 3)
			wantSolved(t, inGrid("TwoGrids of a solved field", g), both, ok, v)
		}
	}
}

func wantNear(t *testing.T, what string, got, want []float32, most float64) {
	t.Helper()
	wantEqual(t, what+", how many", len(got), len(want))
	for i := range min(len(got), len(want)) {
		if far := math.Abs(float64(got[i]) - float64(want[i])); !(far <= most) {
			t.Errorf("%s, number %d: got %v, want nearly %v", what, i, got[i], want[i])
		}
	}
}

// A point that has been swept solves its equation, nearly.
func TestSweepsSolveThePointsOfTheColour(t *testing.T) {
	s := newSource()
	for _, g := range evenGrids() {
		v, charge := s.exactField(g), s.exactField(g)
		for colour := range int64(2) {
			swept, _ := impl.SweepColour(g, v, charge, colour)
			laplace, _ := impl.LaplaceOf(g, swept)
			level, _ := impl.WithoutMean(g, charge)
			for i := range swept {
				if (int64(i)%g.Wide+int64(i)/g.Wide)%2 == colour {
					wantNear(t, inGrid("a swept point", g, i), laplace[i:i+1], level[i:i+1], 1e-4)
				}
			}
		}
	}
}

func TestSolvePotential(t *testing.T) {
	s := newSource()
	for _, g := range allGrids() {
		charge := s.anyField(g)
		for _, rounds := range []int64{0, 1, 2, 7, 60} {
			got, ok := impl.SolvePotential(g, charge, rounds)
			wantSolved(t, inGrid("SolvePotential", g, rounds, charge), got, ok, potentialWanted(g, charge, rounds))
		}
	}
}

func TestSolvePotentialOfFewRounds(t *testing.T) {
	for _, g := range allGrids() {
		zeros, charge := make([]float32, g.Wide*g.High), numbered(g)
		none, ok := impl.SolvePotential(g, charge, 0)
		wantSolved(t, inGrid("SolvePotential of no rounds", g), none, ok, zeros)
		first, _ := impl.SweepColour(g, zeros, charge, 0)
		second, _ := impl.SweepColour(g, first, charge, 1)
		want, _ := impl.WithoutMean(g, second)
		once, ok := impl.SolvePotential(g, charge, 1)
		wantSolved(t, inGrid("SolvePotential of one round", g), once, ok, want)
		even, ok := impl.SolvePotential(g, repeated(float32(7), len(charge)), 60)
		wantSolved(t, inGrid("SolvePotential of a field without differences", g), even, ok, zeros)
	}
}

func TestRoundsHaveLimits(t *testing.T) {
	for _, g := range []impl.Grid{{Wide: 8, High: 8}, {Wide: 16, High: 16}} {
		field := numbered(g)
		for _, rounds := range []int64{0, 1, 59, 60} {
			_, one := impl.SolvePotential(g, field, rounds)
			_, two := impl.TwoGrids(g, field, field, rounds)
			wantEqual(t, inGrid("SolvePotential and TwoGrids succeed", g, rounds), one && two, true)
		}
		for _, rounds := range []int64{-1, 61, 62, -60, 1 << 32, math.MaxInt64, math.MinInt64} {
			wantFailures(t, []badCall{
				{inGrid("SolvePotential", g, rounds), call1(impl.SolvePotential(g, field, rounds))},
				{inGrid("TwoGrids", g, rounds), call1(impl.TwoGrids(g, field, field, rounds))},
			})
		}
	}
}

func TestSolvePotentialAgainstASeparateCalculation(t *testing.T) {
	for _, c := range []struct {
		g      impl.Grid
		rounds int64
		want   string
	}{
		{impl.Grid{Wide: 5, High: 5}, 3, "c0adfe45,c0857dad,bf54452a,c04e6571,bee2d646,bfa86c0c,bfbdf94c,bf304cd7,3f436439,404699db,beab0a4e,4093a5e5,40238be2,3ffe2cfc,3f958608,3fb61676,408f5288,3f8bca52,4086eaed,3f9d4610,c057aec8,c0047324,bee91d34,3f7e8a20,c0731ecd"},
		{impl.Grid{Wide: 4, High: 4}, 60, "c095ce3a,c042638e,bf9571c8,c095a38f,3fa41c71,ba638a00,bfcdaaaa,bf83aaab,4051b8e4,4084238e,3e5471d6,408a5c72,3f925555,3ef15559,3db38e46,3fa371c6"},
		{impl.Grid{Wide: 6, High: 4}, 7, "c08e0882,c08f94b3,bfd57393,c04c29b6,3fe1e0ef,3f14ed18,c007220f,c0482b15,bea7c686,403c4dde,3fbf8dbf,405edfe2,3f751706,bfab626c,bf4e149a,4007431a,40990cdc,3fad0be4,4024f3cf,bf87d131,c01aaa0f,bfe81ddf,3fc81481,404af4dd"},
	} {
		got, ok := impl.SolvePotential(c.g, patterned(int(c.g.Wide*c.g.High), 1), c.rounds)
		wantText(t, inGrid("SolvePotential", c.g, c.rounds), got, ok, c.want)
	}
}

// sizeOf is the greatest absolute value of a field.
func sizeOf(field []float32) float32 {
	return max(slices.Max(field), -slices.Min(field))
}

// Rounds of sweeps bring the residual to nearly nothing, also in grids of odd sides.
func TestSweepsSolvePotentialsNearly(t *testing.T) {
	s := newSource()
	for _, g := range allGrids() {
		charge := s.exactField(g)
		last := sizeOf(levelWanted(charge))
		first := last
		for _, rounds := range []int64{10, 30, 60} {
			v, _ := impl.SolvePotential(g, charge, rounds)
			residual, _ := impl.ResidualOf(g, v, charge)
			if !(residual <= last) {
				t.Errorf("%s: the residual grows from %v to %v", inGrid("SolvePotential", g, rounds), last, residual)
			}
			last = residual
			mean, _ := impl.MeanOf(g, v)
			wantNear(t, inGrid("the mean of SolvePotential", g, rounds), []float32{mean}, []float32{0}, 1e-3)
		}
		most := first / 100
		if g.Wide <= 8 && g.High <= 8 {
			most = first / 10000
		}
		if !(last <= most) {
			t.Errorf("%s: the residual is %v of %v", inGrid("SolvePotential of 60 rounds", g), last, first)
		}
	}
}
