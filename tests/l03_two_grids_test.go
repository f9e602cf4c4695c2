package tests

import (
	"math"
	"testing"

	"loop.example/g01226/impl"
)

func wantCoarse(t *testing.T, g impl.Grid, field, want []float32) {
	t.Helper()
	half, got, ok := impl.CoarseField(g, field)
	wantSolved(t, inGrid("CoarseField", g, field), got, ok, want)
	wantEqual(t, inGrid("the grid of CoarseField", g), half, impl.Grid{Wide: g.Wide / 2, High: g.High / 2})
}

func wantFine(t *testing.T, g impl.Grid, field, want []float32) {
	t.Helper()
	twice, got, ok := impl.FineField(g, field)
	wantSolved(t, inGrid("FineField", g, field), got, ok, want)
	wantEqual(t, inGrid("the grid of FineField", g), twice, impl.Grid{Wide: 2 * g.Wide, High: 2 * g.High})
}

func TestCoarseFieldOfOnePoint(t *testing.T) {
	for _, g := range halvedGrids() {
		for i := range g.Wide * g.High {
			x, y, half := i%g.Wide, i/g.Wide, impl.Grid{Wide: g.Wide / 2, High: g.High / 2}
			want := fieldOf(half, map[int64]float32{x/2 + half.Wide*(y/2): 2})
			wantCoarse(t, g, fieldOf(g, map[int64]float32{i: 8}), want)
		}
	}
}

func TestCoarseFieldAddsInOrder(t *testing.T) {
	g, huge := impl.Grid{Wide: 8, High: 10}, float32(math.MaxFloat32)
	for _, c := range []struct{ one, right, high, both, want float32 }{
		{1, 2, 4, 9, 4},
		{1e30, -1e30, 4, 4, 2},
		{4, 1e30, -1e30, 8, 2},
		{4, 4, 1e30, -1e30, 0},
		{16777216, 1, 1, 1, 4194304},
		{1, 1, 1, 16777216, 4194305},
		{huge, huge, -huge, -huge, infinity()},
		{huge, -huge, huge, 0, huge / 4},
		{minusZero(), minusZero(), minusZero(), minusZero(), minusZero()},
		{minusZero(), minusZero(), 0, minusZero(), 0},
		{fromBits(2), 0, 0, 0, 0},
		{fromBits(1), fromBits(1), fromBits(1), 0, fromBits(1)},
		{infinity(), 1, 1, 1, infinity()},
		{infinity(), 1, 1, -infinity(), notANumber()},
		{1, 1, notANumber(), 1, notANumber()},
	} {
		field := fieldOf(g, map[int64]float32{22: c.one, 23: c.right, 30: c.high, 31: c.both})
		wantCoarse(t, g, field, fieldOf(impl.Grid{Wide: 4, High: 5}, map[int64]float32{7: c.want}))
	}
}

func TestFineFieldOfOnePoint(t *testing.T) {
	for wide := int64(4); wide <= 8; wide++ {
		for high := int64(4); high <= 8; high++ {
			g := impl.Grid{Wide: wide, High: high}
			for i := range wide * high {
				low := 2*(i%wide) + 4*wide*(i/wide)
				want := fieldOf(impl.Grid{Wide: 2 * wide, High: 2 * high}, map[int64]float32{low: 3, low + 1: 3, low + 2*wide: 3, low + 2*wide + 1: 3})
				wantFine(t, g, fieldOf(g, map[int64]float32{i: 3}), want)
			}
		}
	}
}

func TestFineFieldTakesAnyNumbers(t *testing.T) {
	g := impl.Grid{Wide: 5, High: 6}
	field := oddNumbers()[:30]
	wantFine(t, g, field, fineWanted(g, field))
}

// Only even sides of 8 or more are halved, and only sides of 8 or less doubled.
func TestGridsThatAreHalvedOrDoubled(t *testing.T) {
	for _, g := range allGrids() {
		field := numbered(g)
		halved := g.Wide%2 == 0 && g.High%2 == 0 && g.Wide >= 8 && g.High >= 8
		doubled := g.Wide <= 8 && g.High <= 8
		half, coarse, one := impl.CoarseField(g, field)
		both, two := impl.TwoGrids(g, field, field, 1)
		twice, fine, three := impl.FineField(g, field)
		wantEqual(t, inGrid("CoarseField succeeds", g), one, halved)
		wantEqual(t, inGrid("TwoGrids succeeds", g), two, halved)
		wantEqual(t, inGrid("FineField succeeds", g), three, doubled)
		if !halved {
			wantFailures(t, []badCall{{inGrid("CoarseField", g), results(half, coarse, one)}, {inGrid("TwoGrids", g), results(both, two)}})
		}
		if !doubled {
			wantFailures(t, []badCall{{inGrid("FineField", g), results(twice, fine, three)}})
		}
	}
}

func TestCoarseFieldAgainstOtherNumbers(t *testing.T) {
	s := newSource()
	for range 200 {
		for _, g := range halvedGrids() {
			field := s.anyField(g)
			wantCoarse(t, g, field, coarseWanted(g, field))
		}
	}
}

// What is made fine and then coarse again stays, and no charge is lost or made.
func TestCoarseFieldOfAFineFieldIsTheField(t *testing.T) {
	s := newSource()
	for wide := int64(4); wide <= 8; wide++ {
		for high := int64(4); high <= 8; high++ {
			g := impl.Grid{Wide: wide, High: high}
			field := s.exactField(g)
			twice, fine, _ := impl.FineField(g, field)
			back, again, ok := impl.CoarseField(twice, fine)
			wantSolved(t, inGrid("CoarseField of FineField", g), again, ok, field)
			wantEqual(t, inGrid("the grid of both", g), back, g)
			one, _ := impl.TotalOf(field)
			four, _ := impl.TotalOf(fine)
			wantEqual(t, inGrid("the total of FineField", g), four, 4*one)
		}
	}
}

func TestTwoGridsAgainstOtherNumbers(t *testing.T) {
	s := newSource()
	for range 3 {
		for _, g := range halvedGrids() {
			for _, rounds := range []int64{0, 1, 2, 9, 60} {
				v, charge := s.field(g), s.field(g)
				if rounds == 9 {
					v, charge = s.anyField(g), s.anyField(g)
				}
				got, ok := impl.TwoGrids(g, v, charge, rounds)
				wantSolved(t, inGrid("TwoGrids", g, rounds, v, charge), got, ok, twoGridsWanted(g, v, charge, rounds))
			}
		}
	}
}

// sweptBoth makes rounds of SweepColour.
func sweptBoth(g impl.Grid, v, charge []float32, rounds int) []float32 {
	for range rounds {
		v, _ = impl.SweepColour(g, v, charge, 0)
		v, _ = impl.SweepColour(g, v, charge, 1)
	}
	return v
}

// TwoGrids is made of what the other functions make.
func TestTwoGridsOfOtherFunctions(t *testing.T) {
	s := newSource()
	for _, g := range halvedGrids() {
		v, charge := s.field(g), s.field(g)
		for _, rounds := range []int{0, 3} {
			before := sweptBoth(g, v, charge, rounds)
			level, _ := impl.WithoutMean(g, charge)
			laplace, _ := impl.LaplaceOf(g, before)
			opposite, _ := impl.ScaleField(g, laplace, -1)
			left, _ := impl.AddFields(g, level, opposite)
			half, coarse, _ := impl.CoarseField(g, left)
			four, _ := impl.ScaleField(half, coarse, 4)
			solved, _ := impl.SolvePotential(half, four, 20)
			_, fine, _ := impl.FineField(half, solved)
			corrected, _ := impl.AddFields(g, before, fine)
			got, ok := impl.TwoGrids(g, v, charge, int64(rounds))
			wantSolved(t, inGrid("TwoGrids", g, rounds), got, ok, sweptBoth(g, corrected, charge, rounds))
		}
	}
}

// The coarse grid brings far places together: with it, as many sweeps leave less.
func TestTwoGridsSolvePotentialsNearly(t *testing.T) {
	s := newSource()
	for _, g := range halvedGrids() {
		zeros, charge := make([]float32, g.Wide*g.High), s.exactField(g)
		charge[0] += 500
		first, _ := impl.ResidualOf(g, zeros, charge)
		v, _ := impl.TwoGrids(g, zeros, charge, 60)
		last, _ := impl.ResidualOf(g, v, charge)
		alone, _ := impl.ResidualOf(g, sweptBoth(g, zeros, charge, 120), charge)
		if !(last <= first/500) || !(last <= alone+first/100000) {
			t.Errorf("%s: the residual is %v of %v, and %v with sweeps alone", inGrid("TwoGrids", g), last, first, alone)
		}
	}
}

func TestTwoGridsAgainstASeparateCalculation(t *testing.T) {
	g := impl.Grid{Wide: 8, High: 8}
	_, coarse, ok := impl.CoarseField(g, patterned(64, 1))
	wantText(t, "CoarseField", coarse, ok, "c03aaaaa,bfeaaaac,3f8aaaab,c0255555,bfeaaaac,c03aaaaa,c00aaaab,3ed55556,bfa00002,407aaaab,401fffff,c0b00000,40e80000,41240000,bfe00000,c0600000")
	v, ok := impl.TwoGrids(g, patterned(64, 2), patterned(64, 1), 2)
	wantText(t, "TwoGrids", v, ok, "c08d3490,3f009df1,408f4170,3fe68ebf,401c4b8c,bfd930ca,c0aa3d56,c0a4fd16,bde1258c,406aee6f,4016c40c,409ba5a9,3fb42a8c,c046071c,c08eb140,c0010800,3fccbbff,3f243352,4080d471,3fd24c8a,bfa67554,c0b80df8,c0aeaac6,bf76cb4e,c0abac6a,3f624d53,3de0f360,bfde40e6,400fe8b9,c0e696e2,c1053f4a,c081108c,c0a96f1c,409d7b86,40b18155,407940d4,40212bc6,c02c737f,c11aa963,c0ca005c,c017d949,41129e71,4138604a,41287d55,40cb4d40,c0492674,c0a152b2,c0bf2f01,40c75954,4131dffb,41577a0d,4144d50a,4007c4a6,bf514e0d,c0b88b1e,3d8f6170,4002a344,40d1cae1,4121059f,41209646,400c8f7c,3fbba94e,c07298f5,c07b523c")
	other := impl.Grid{Wide: 8, High: 10}
	v, ok = impl.TwoGrids(other, patterned(80, 2), patterned(80, 1), 0)
	wantEqual(t, "TwoGrids has all numbers", len(v), 80)
	wantText(t, "TwoGrids without sweeps", v[:20], ok, "c0a7e438,3fb5c474,41358486,c0ca4c49,40ee908e,bf60d0e2,c01259b1,bfa4b360,4126b88e,41a606f2,3f2d9db8,41a2c243,4083e5e4,bf0b7b8c,3fdb4c9f,40cc287e,41b618a7,40461a8c,4184fdd0,40c94c95")
}
