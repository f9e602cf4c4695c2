package tests

import (
	"fmt"
	"math"
	"testing"

	"loop.example/g01226/impl"
)

func TestLimitsOfPotentials(t *testing.T) {
	wantEqual(t, "MaxSweeps", impl.MaxSweeps, 60)
	wantEqual(t, "MaxWorkers", impl.MaxWorkers, 8)
}

func TestAFieldOfOnes(t *testing.T) {
	for _, g := range allGrids() {
		points := int(g.Wide * g.High)
		ones, zeros := repeated(float32(1), points), make([]float32, points)
		mean, one := impl.MeanOf(g, ones)
		wantNumber(t, inGrid("MeanOf ones", g), mean, 1)
		level, two := impl.WithoutMean(g, ones)
		wantSolved(t, inGrid("WithoutMean of ones", g), level, one && two, zeros)
		laplace, ok := impl.LaplaceOf(g, ones)
		wantSolved(t, inGrid("LaplaceOf ones", g), laplace, ok, zeros)
		x, y, ok := impl.FieldsOf(g, ones)
		wantSolved(t, inGrid("FieldsOf ones, X", g), x, ok, zeros)
		wantSolved(t, inGrid("FieldsOf ones, Y", g), y, ok, zeros)
		residual, ok := impl.ResidualOf(g, ones, ones)
		wantNumber(t, inGrid("ResidualOf ones", g), residual, 0)
		wantEqual(t, inGrid("ResidualOf ones succeeds", g), ok, true)
	}
}

// rising is a list of n numbers: first ones, then others.
func rising(n int, first, others float32) []float32 {
	list := repeated(others, n)
	list[0] = first
	return list
}

func falling(n int, others, last float32) []float32 {
	list := repeated(others, n)
	list[n-1] = last
	return list
}

func TestMeanOf(t *testing.T) {
	g, huge := impl.Grid{Wide: 4, High: 4}, float32(math.MaxFloat32)
	for _, c := range []struct {
		field []float32
		want  float32
	}{
		{fieldOf(g, map[int64]float32{5: 16}), 1},
		{fieldOf(g, map[int64]float32{0: -3, 15: 1}), -0.125},
		// Numbers are added in order.
		{rising(16, 16777216, 1), 1048576},
		{falling(16, 1, 16777216), 1048577},
		{fieldOf(g, map[int64]float32{0: 1e30, 1: 16, 2: -1e30}), 0},
		{fieldOf(g, map[int64]float32{0: 1e30, 1: -1e30, 2: 16}), 1},
		// The sum begins with +0.
		{repeated(minusZero(), 16), 0},
		{fieldOf(g, map[int64]float32{3: 2, 4: -2}), 0},
		// A quotient that is subnormal is rounded.
		{fieldOf(g, map[int64]float32{7: fromBits(8)}), 0},
		{fieldOf(g, map[int64]float32{7: fromBits(9)}), fromBits(1)},
		{fieldOf(g, map[int64]float32{7: -fromBits(8)}), minusZero()},
		{fieldOf(g, map[int64]float32{7: fromBits(24)}), fromBits(2)},
		// The sum is not divided before its end.
		{fieldOf(g, map[int64]float32{1: huge, 2: huge}), infinity()},
		{fieldOf(g, map[int64]float32{1: -huge, 2: -huge, 3: huge}), -infinity()},
		{fieldOf(g, map[int64]float32{1: infinity()}), infinity()},
		{fieldOf(g, map[int64]float32{1: infinity(), 9: -infinity()}), notANumber()},
		{fieldOf(g, map[int64]float32{15: notANumber()}), notANumber()},
	} {
		got, ok := impl.MeanOf(g, c.field)
		wantNumber(t, fmt.Sprintf("MeanOf(%v)", c.field), got, c.want)
		wantEqual(t, fmt.Sprintf("MeanOf(%v) succeeds", c.field), ok, true)
	}
}

func TestWithoutMean(t *testing.T) {
	g := impl.Grid{Wide: 4, High: 4}
	level := repeated(float32(-1), 16)
	level[5] = 15
	wantLevel(t, g, fieldOf(g, map[int64]float32{5: 16}), level)
	// Zeros keep their signs where the mean is +0.
	wantLevel(t, g, repeated(minusZero(), 16), repeated(minusZero(), 16))
	wantLevel(t, g, make([]float32, 16), make([]float32, 16))
	wantLevel(t, g, fieldOf(g, map[int64]float32{0: minusZero(), 1: 2, 2: -2}), fieldOf(g, map[int64]float32{0: minusZero(), 1: 2, 2: -2}))
	// A number equal to the mean becomes +0.
	wantLevel(t, g, repeated(float32(-7), 16), make([]float32, 16))
	// Means that are not finite.
	wantLevel(t, g, rising(16, infinity(), 1), rising(16, notANumber(), -infinity()))
	wantLevel(t, g, falling(16, 1, -infinity()), falling(16, infinity(), notANumber()))
	wantLevel(t, g, rising(16, notANumber(), 1), repeated(notANumber(), 16))
	wantLevel(t, g, repeated(float32(math.MaxFloat32), 16), repeated(-infinity(), 16))
}

func wantLevel(t *testing.T, g impl.Grid, field, want []float32) {
	t.Helper()
	got, ok := impl.WithoutMean(g, field)
	wantSolved(t, fmt.Sprintf("WithoutMean(%v)", field), got, ok, want)
}

// A number counts 4 times at its point, and is taken from its four neighbours,
// also around the edges.
func TestLaplaceOfOnePoint(t *testing.T) {
	for _, g := range validGrids() {
		for i := range g.Wide * g.High {
			x, y := i%g.Wide, i/g.Wide
			want := fieldOf(g, map[int64]float32{
				i:                                12,
				(x+1)%g.Wide + g.Wide*y:          -3,
				(x+g.Wide-1)%g.Wide + g.Wide*y:   -3,
				x + g.Wide*((y+1)%g.High):        -3,
				x + g.Wide*((y+g.High-1)%g.High): -3,
			})
			got, ok := impl.LaplaceOf(g, fieldOf(g, map[int64]float32{i: 3}))
			wantSolved(t, inGrid("LaplaceOf one point", g, i), got, ok, want)
		}
	}
}

// aroundPoint is a field with the numbers of the middle 2, 1 and its neighbours.
func aroundPoint(g impl.Grid, middle, left, right, low, high float32) []float32 {
	i := 2 + g.Wide
	return fieldOf(g, map[int64]float32{i: middle, i - 1: left, i + 1: right, i - g.Wide: low, i + g.Wide: high})
}

func TestLaplaceOfNumbersInOrder(t *testing.T) {
	least, huge := fromBits(1), float32(math.MaxFloat32)
	for _, c := range []struct{ middle, left, right, low, high, want float32 }{
		{1, 2, 4, 8, 16, -26},
		{0, 1e30, -1e30, 1, 2, -3},
		{0, 1, -1e30, 1e30, 2, -2},
		{0, 1, 2, -1e30, 1e30, 0},
		{4194304, 1, 1, 1, 1, 16777212},
		{4194304, -1, -1, -1, 4, 16777212},
		{4194304, 4, -1, -1, -1, 16777215},
		{-4194304, 1, 1, 1, -4, -16777212},
		// 4 times a number is rounded before something is taken away.
		{huge, huge, huge, huge, huge, infinity()},
		{-huge, -huge, -huge, -huge, -huge, -infinity()},
		{huge, infinity(), 0, 0, 0, notANumber()},
		{0, huge, huge, -huge, -huge, -infinity()},
		{infinity(), 1, 2, 3, 4, infinity()},
		{1, infinity(), 0, 0, 0, -infinity()},
		{1, 0, 0, 0, -infinity(), infinity()},
		{1, 0, infinity(), -infinity(), 0, notANumber()},
		{1, 0, notANumber(), 0, 0, notANumber()},
		{notANumber(), 0, 0, 0, 0, notANumber()},
		{minusZero(), 0, 0, 0, 0, minusZero()},
		{minusZero(), 0, 0, 0, minusZero(), 0},
		{minusZero(), minusZero(), minusZero(), minusZero(), minusZero(), 0},
		{0, minusZero(), minusZero(), minusZero(), minusZero(), 0},
		{least, least, least, 0, 0, fromBits(2)},
		{least, least, least, least, least, 0},
	} {
		g := impl.Grid{Wide: 5, High: 4}
		got, ok := impl.LaplaceOf(g, aroundPoint(g, c.middle, c.left, c.right, c.low, c.high))
		wantEqual(t, "LaplaceOf succeeds", ok && len(got) == 20, true)
		wantNumber(t, fmt.Sprintf("LaplaceOf %v", c), got[7], c.want)
	}
}

func TestResidualOf(t *testing.T) {
	g, huge := impl.Grid{Wide: 4, High: 4}, float32(math.MaxFloat32)
	zeros, one := make([]float32, 16), fieldOf(g, map[int64]float32{5: 1})
	odd := func(i int64, x float32) []float32 { return fieldOf(g, map[int64]float32{i: x}) }
	solved := []float32{0, -1, 0, 0, -1, 4, -1, 0, 0, -1, 0, 0, 0, 0, 0, 0}
	for _, c := range []struct {
		v, charge []float32
		want      float32
	}{
		{zeros, odd(5, 16), 15},
		{zeros, odd(0, -16), 15},
		{zeros, odd(15, 16), 15},
		{one, zeros, 4},
		{odd(5, -1), zeros, 4},
		{one, odd(5, 16), 11},
		{one, odd(5, -16), 19},
		{one, solved, 0},
		{zeros, zeros, 0},
		{zeros, repeated(minusZero(), 16), 0},
		{repeated(float32(-3), 16), repeated(float32(9), 16), 0},
		{repeated(minusZero(), 16), zeros, 0},
		{zeros, odd(3, fromBits(1)), fromBits(1)},
		// One not-a-number is enough, wherever it is.
		{zeros, odd(0, notANumber()), notANumber()},
		{odd(0, notANumber()), odd(9, 1e30), notANumber()},
		{odd(15, notANumber()), odd(9, 1e30), notANumber()},
		{zeros, odd(0, infinity()), notANumber()},
		{odd(10, infinity()), zeros, infinity()},
		{odd(10, -infinity()), zeros, infinity()},
		{fieldOf(g, map[int64]float32{9: infinity(), 10: infinity()}), zeros, notANumber()},
		{odd(2, huge), zeros, infinity()},
		{odd(2, huge/4), zeros, huge},
		{odd(2, -huge/4), zeros, huge},
	} {
		got, ok := impl.ResidualOf(g, c.v, c.charge)
		wantNumber(t, fmt.Sprintf("ResidualOf(%v, %v)", c.v, c.charge), got, c.want)
		wantEqual(t, "ResidualOf succeeds", ok, true)
	}
}

func TestFieldsOfOnePoint(t *testing.T) {
	for _, g := range validGrids() {
		for i := range g.Wide * g.High {
			x, y := i%g.Wide, i/g.Wide
			alongX, alongY, ok := impl.FieldsOf(g, fieldOf(g, map[int64]float32{i: 3}))
			wantSolved(t, inGrid("FieldsOf one point, X", g, i), alongX, ok, fieldOf(g, map[int64]float32{
				(x+1)%g.Wide + g.Wide*y: 1.5, (x+g.Wide-1)%g.Wide + g.Wide*y: -1.5,
			}))
			wantSolved(t, inGrid("FieldsOf one point, Y", g, i), alongY, ok, fieldOf(g, map[int64]float32{
				x + g.Wide*((y+1)%g.High): 1.5, x + g.Wide*((y+g.High-1)%g.High): -1.5,
			}))
		}
	}
}

func TestFieldsOf(t *testing.T) {
	least, huge := fromBits(1), float32(math.MaxFloat32)
	for _, c := range []struct{ before, behind, want float32 }{
		{5, 2, 1.5},
		{2, 5, -1.5},
		{1, 1, 0},
		{minusZero(), minusZero(), 0},
		{minusZero(), 0, minusZero()},
		{0, minusZero(), 0},
		{16777216, -1, 8388608},
		{least, 0, 0},
		{0, least, minusZero()},
		{fromBits(3), 0, fromBits(2)},
		{huge, -huge, infinity()},
		{-huge, huge, -infinity()},
		{huge, 0, huge / 2},
		{infinity(), 1, infinity()},
		{1, infinity(), -infinity()},
		{infinity(), infinity(), notANumber()},
		{notANumber(), 1, notANumber()},
		{1, notANumber(), notANumber()},
	} {
		for _, g := range []impl.Grid{{Wide: 5, High: 4}, {Wide: 4, High: 5}} {
			i := 2 + g.Wide
			x, _, one := impl.FieldsOf(g, aroundPoint(g, notANumber(), c.before, c.behind, 7, 8))
			_, y, two := impl.FieldsOf(g, aroundPoint(g, notANumber(), 7, 8, c.before, c.behind))
			wantEqual(t, "FieldsOf succeeds", one && two && len(x) == 20 && len(y) == 20, true)
			wantNumber(t, fmt.Sprintf("FieldsOf %v, X", c), x[i], c.want)
			wantNumber(t, fmt.Sprintf("FieldsOf %v, Y", c), y[i], c.want)
		}
	}
}

func TestFieldEnergy(t *testing.T) {
	g, huge := impl.Grid{Wide: 4, High: 4}, float32(math.MaxFloat32)
	pair := func(a, b float32) []float32 { return fieldOf(g, map[int64]float32{5: a, 9: b}) }
	for _, c := range []struct {
		v, charge []float32
		want      float32
	}{
		{pair(1, 0), pair(16, 0), 7.5},
		{pair(1, 0), pair(-16, 0), -7.5},
		{pair(3, 5), pair(2, -2), -2},
		{pair(0, 0), pair(2, -2), 0},
		{repeated(float32(1), 16), pair(16, 0), 0},
		{pair(2, 3), repeated(float32(4), 16), 0},
		{repeated(minusZero(), 16), pair(16, 0), 0},
		// Products are rounded and added in order.
		{pair(16777216, 1), fieldOf(g, map[int64]float32{5: 1, 9: 1, 0: -2}), 8388608},
		{fieldOf(g, map[int64]float32{5: 1, 9: -1}), fieldOf(g, map[int64]float32{5: 1e30, 9: 1e30, 0: -2e30}), 0},
		{pair(1+0x1p-12, -1), fieldOf(g, map[int64]float32{5: 1 + 0x1p-12, 9: 1 + 0x1p-11, 0: -2 - 0x1p-12 - 0x1p-11}), 0},
		{pair(huge, huge), pair(2, -2), notANumber()},
		{pair(huge, 1), pair(2, -2), infinity()},
		{pair(huge, 0), pair(1, -1), huge / 2},
		{pair(fromBits(1), 0), pair(1, -1), 0},
		{pair(fromBits(3), 0), pair(1, -1), fromBits(2)},
		{pair(infinity(), 0), pair(2, -2), infinity()},
		{fieldOf(g, map[int64]float32{0: infinity()}), pair(2, -2), notANumber()},
		{fieldOf(g, map[int64]float32{0: notANumber()}), pair(2, -2), notANumber()},
		{pair(1, 1), pair(infinity(), 0), notANumber()},
	} {
		got, ok := impl.FieldEnergy(g, c.v, c.charge)
		wantNumber(t, fmt.Sprintf("FieldEnergy(%v, %v)", c.v, c.charge), got, c.want)
		wantEqual(t, "FieldEnergy succeeds", ok, true)
	}
}

func TestMeasuresOfPotentialsAgainstOtherNumbers(t *testing.T) {
	s := newSource()
	for range 30 {
		for _, g := range allGrids() {
			v, charge := s.anyField(g), s.anyField(g)
			mean, ok := impl.MeanOf(g, v)
			wantNumber(t, inGrid("MeanOf", g, v), mean, meanWanted(v))
			wantEqual(t, inGrid("MeanOf succeeds", g), ok, true)
			wantLevel(t, g, v, levelWanted(v))
			laplace, ok := impl.LaplaceOf(g, v)
			wantSolved(t, inGrid("LaplaceOf", g, v), laplace, ok, laplaceWanted(g, v))
			residual, ok := impl.ResidualOf(g, v, charge)
			wantNumber(t, inGrid("ResidualOf", g, v, charge), residual, residualWanted(g, v, charge))
			wantEqual(t, inGrid("ResidualOf succeeds", g), ok, true)
			energy, ok := impl.FieldEnergy(g, v, charge)
			wantNumber(t, inGrid("FieldEnergy", g, v, charge), energy, energyWanted(v, charge))
			wantEqual(t, inGrid("FieldEnergy succeeds", g), ok, true)
			x, y, ok := impl.FieldsOf(g, v)
			wantedX, wantedY := fieldsWanted(g, v)
			wantSolved(t, inGrid("FieldsOf, X", g, v), x, ok, wantedX)
			wantSolved(t, inGrid("FieldsOf, Y", g, v), y, ok, wantedY)
		}
	}
}

func TestMeasuresOfPotentialsAgainstASeparateCalculation(t *testing.T) {
	g := impl.Grid{Wide: 5, High: 4}
	v, charge := patterned(20, 2), patterned(20, 1)
	mean, one := impl.MeanOf(g, charge)
	residual, two := impl.ResidualOf(g, v, charge)
	wantText(t, "MeanOf and ResidualOf", []float32{mean, residual}, one && two, "bee6666b,42823bbc")
	level, ok := impl.WithoutMean(g, charge)
	wantText(t, "WithoutMean", level, ok, "c168cccd,c0fc4443,405ccccd,c1637778,40ce6667,bff1110f,c0b19999,c0919999,3f8eeef0,41373333,c0e6eeee,41473333,40477778,bfc66665,bfc66665,40477778,41473333,c0e6eeee,41373333,3f8eeef0")
	laplace, ok := impl.LaplaceOf(g, v)
	wantText(t, "LaplaceOf", laplace, ok, "c267ffff,c1daaaab,423eaaaa,c29eaaab,4227ffff,41055555,c1a2aaac,c1a2aaab,41555554,4226aaab,c223ffff,423c0000,41555556,c1a2aaab,c1200000,41a55556,42455556,c26d5556,42875556,c1700000")
}
