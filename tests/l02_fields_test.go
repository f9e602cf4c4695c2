package tests

import (
	"fmt"
	"math"
	"testing"

	"loop.example/g01226/impl"
)

func wantDeposit(t *testing.T, g impl.Grid, list []impl.Particle, want []float32) {
	t.Helper()
	got, ok := impl.DepositOf(g, list)
	what := fmt.Sprintf("DepositOf(%v, %v)", g, list)
	wantField(t, what, got, want)
	wantEqual(t, what+" succeeds", ok, true)
}

func TestDepositOf(t *testing.T) {
	g, huge := impl.Grid{Wide: 4, High: 5}, float32(math.MaxFloat32)
	for _, c := range []struct {
		list []impl.Particle
		want map[int64]float32
	}{
		{nil, nil},
		{[]impl.Particle{}, nil},
		{[]impl.Particle{particleAt(complex(1, 2), 3)}, map[int64]float32{9: 3}},
		{[]impl.Particle{particleAt(complex(4.5, -0.25), 2)}, map[int64]float32{16: 0.25, 17: 0.25, 0: 0.75, 1: 0.75}},
		{[]impl.Particle{particleAt(complex(3.5, 4.75), -8)}, map[int64]float32{19: -1, 16: -1, 3: -3, 0: -3}},
		{[]impl.Particle{particleAt(complex(1.25, 2), 4), particleAt(complex(2, 1.5), 4)}, map[int64]float32{9: 3, 10: 3, 6: 2}},
		{[]impl.Particle{particleAt(1, 5), particleAt(1, -5)}, nil},
		// There are no zeros with a sign.
		{[]impl.Particle{particleAt(0, minusZero()), particleAt(complex(0.5, 0.5), minusZero()), particleAt(complex(2, 2), -1)}, map[int64]float32{10: -1}},
		{[]impl.Particle{particleAt(0.5, -fromBits(1))}, nil},
		{[]impl.Particle{particleAt(0.25, -fromBits(2))}, map[int64]float32{0: -fromBits(2)}},
		// Charges come in order, and each sum is rounded.
		{[]impl.Particle{particleAt(0, 16777216), particleAt(0, 1), particleAt(0, 1)}, map[int64]float32{0: 16777216}},
		{[]impl.Particle{particleAt(0, 1), particleAt(0, 1), particleAt(0, 16777216)}, map[int64]float32{0: 16777218}},
		{[]impl.Particle{particleAt(0, 1e30), particleAt(0, 1), particleAt(0, -1e30)}, nil},
		// Each product is rounded before it is added.
		{[]impl.Particle{particleAt(1, -0.5), particleAt(0.5+0x1p-13, 1+0x1p-12)}, map[int64]float32{0: 0.5 - 0x1p-25, 1: 0x1p-12}},
		// Sums may leave the finite numbers.
		{[]impl.Particle{particleAt(1, huge), particleAt(1, huge)}, map[int64]float32{1: infinity()}},
		{[]impl.Particle{particleAt(1, -huge), particleAt(1, -huge), particleAt(1, huge)}, map[int64]float32{1: -infinity()}},
	} {
		wantDeposit(t, g, c.list, fieldOf(g, c.want))
	}
}

func TestDepositOfAsManyAsAllowed(t *testing.T) {
	for _, g := range validGrids() {
		last := g.Wide*g.High - 1
		wantDeposit(t, g, repeated(particleAt(complex(-1, -1), 0.5), 64), fieldOf(g, map[int64]float32{last: 32}))
		wantDeposit(t, g, nil, fieldOf(g, nil))
		for i := range g.Wide * g.High {
			at := complex(float32(i%g.Wide), float32(i/g.Wide))
			wantDeposit(t, g, []impl.Particle{particleAt(at, 7)}, fieldOf(g, map[int64]float32{i: 7}))
		}
	}
}

func TestDepositAgainstOtherNumbers(t *testing.T) {
	s := newSource()
	for range 1000 {
		g, list := s.grid(), s.particles(s.Intn(65))
		wantDeposit(t, g, list, depositWanted(g, list))
	}
}

// exactParticles have places and charges so round that no rounding comes in.
func (s source) exactParticles(n int) []impl.Particle {
	list := make([]impl.Particle, n)
	for i := range list {
		at := complex(float32(s.Intn(400)-200)/16, float32(s.Intn(400)-200)/16)
		list[i] = particleAt(at, float32(s.Intn(64)-32)/4)
	}
	return list
}

func (s source) exactField(g impl.Grid) []float32 {
	field := make([]float32, g.Wide*g.High)
	for i := range field {
		field[i] = float32(s.Intn(64) - 32)
	}
	return field
}

func TestChargeIsNeitherLostNorMade(t *testing.T) {
	s := newSource()
	for range 1000 {
		g, list := s.grid(), s.exactParticles(s.Intn(65))
		field, _ := impl.DepositOf(g, list)
		total, one := impl.TotalOf(field)
		charge, two := impl.ChargeOf(list)
		wantEqual(t, fmt.Sprintf("the charge left by %v", list), total, charge)
		wantEqual(t, "TotalOf and ChargeOf succeed", one && two, true)
	}
}

// Of a field, a particle gathers what the field has of its deposit.
func TestGatheredIsWhatIsLeft(t *testing.T) {
	s := newSource()
	for range 1000 {
		g, list := s.grid(), s.exactParticles(1)
		field, one := s.exactField(g), particleAt(list[0].At, 1)
		left, _ := impl.DepositOf(g, []impl.Particle{one})
		want, _ := impl.DotNumbers(field, left)
		got, _ := impl.GatherOne(g, field, one.At)
		wantEqual(t, fmt.Sprintf("gathered at %v", one.At), got, want)
		even, _ := impl.GatherOne(g, repeated(float32(-5), len(field)), one.At)
		wantEqual(t, fmt.Sprintf("gathered of an even field at %v", one.At), even, -5)
	}
}

func wantGathered(t *testing.T, g impl.Grid, x, y []float32, at, want complex64) {
	t.Helper()
	what := fmt.Sprintf("(%v, %v, %v, %v)", g, x, y, at)
	one, ok := impl.GatherOne(g, x, at)
	wantNumber(t, "GatherOne, first,"+what, one, real(want))
	wantEqual(t, "GatherOne succeeds"+what, ok, true)
	two, ok := impl.GatherOne(g, y, at)
	wantNumber(t, "GatherOne, second,"+what, two, imag(want))
	wantEqual(t, "GatherOne succeeds"+what, ok, true)
	both, ok := impl.GatherTwo(g, x, y, at)
	wantComplex(t, "GatherTwo"+what, both, want)
	wantEqual(t, "GatherTwo succeeds"+what, ok, true)
}

func TestGather(t *testing.T) {
	g, least := impl.Grid{Wide: 4, High: 5}, fromBits(1)
	for _, c := range []struct {
		field map[int64]float32
		at    complex64
		want  float32
	}{
		{nil, complex(1.5, 2.5), 0},
		{map[int64]float32{9: 3}, complex(1, 2), 3},
		{map[int64]float32{9: 3, 10: 100, 13: 100, 14: 100}, complex(1, 2), 3},
		{map[int64]float32{16: 8, 17: 16, 0: 24, 1: 32}, complex(4.5, -0.25), 24},
		{map[int64]float32{19: 8, 16: 16, 3: 32, 0: 64}, complex(3.75, 4.75), 0.5 + 3 + 6 + 36},
		{map[int64]float32{0: 8, 1: 16}, complex(minusZero(), minusZero()), 8},
		{map[int64]float32{0: 8, 3: 16}, complex(-least, -least), 8},
		{map[int64]float32{0: 8, 1: 16}, complex(least, least), 8},
		{map[int64]float32{1: 1}, complex(least, 0), least},
		// The sum begins with +0.
		{map[int64]float32{0: minusZero(), 1: minusZero(), 4: minusZero(), 5: minusZero()}, complex(0.5, 0.5), 0},
		{map[int64]float32{0: -least}, complex(0.5, 0.5), 0},
		// Sums are made in order.
		{map[int64]float32{0: 67108864, 1: 4, 4: 4, 5: 4}, complex(0.5, 0.5), 16777216},
		{map[int64]float32{0: 4, 1: 4, 4: 67108864}, complex(0.5, 0.5), 16777218},
		{map[int64]float32{0: 4e30, 1: 4, 4: -4e30, 5: 8}, complex(0.5, 0.5), 2},
		{map[int64]float32{0: 4e30, 1: 4, 4: 4, 5: -4e30}, complex(0.5, 0.5), 0},
		// Each product is rounded before it is added.
		{map[int64]float32{0: -1 - 0x1p-12, 1: 1 + 0x1p-12}, 0.5 + 0x1p-13, 0x1p-12 + 0x1p-25},
		// Numbers that are not finite count wherever they stand, with a share of 0, too.
		{map[int64]float32{5: infinity()}, complex(0.5, 0.5), infinity()},
		{map[int64]float32{0: -infinity()}, complex(0.5, 0.5), -infinity()},
		{map[int64]float32{0: infinity(), 5: -infinity()}, complex(0.5, 0.5), notANumber()},
		{map[int64]float32{5: notANumber()}, complex(0.5, 0.5), notANumber()},
		{map[int64]float32{0: 1, 1: infinity()}, 0, notANumber()},
		{map[int64]float32{0: 1, 5: notANumber()}, 0, notANumber()},
		{map[int64]float32{0: 1, 2: notANumber(), 6: infinity(), 19: notANumber()}, 0, 1},
		{map[int64]float32{0: math.MaxFloat32, 1: math.MaxFloat32, 4: math.MaxFloat32, 5: math.MaxFloat32}, complex(0.5, 0.5), math.MaxFloat32},
	} {
		other := repeated(float32(-2), 20)
		wantGathered(t, g, fieldOf(g, c.field), other, c.at, complex(c.want, -2))
		wantGathered(t, g, other, fieldOf(g, c.field), c.at, complex(-2, c.want))
	}
}

func TestGatherAgainstOtherNumbers(t *testing.T) {
	s := newSource()
	for range 3000 {
		g := s.grid()
		x, y := s.field(g), s.field(g)
		for _, at := range []complex64{s.place(), complex(s.number(), s.finiteBits())} {
			wantGathered(t, g, x, y, at, complex(gatherWanted(g, x, at), gatherWanted(g, y, at)))
		}
	}
}

func TestAddFields(t *testing.T) {
	for _, g := range validGrids() {
		points := int(g.Wide * g.High)
		for i, a := range oddNumbers() {
			for _, b := range oddNumbers() {
				one, two := repeated(float32(1), points), repeated(float32(2), points)
				one[i%points], two[i%points] = a, b
				want := repeated(float32(3), points)
				want[i%points] = plus(a, b)
				got, ok := impl.AddFields(g, one, two)
				wantField(t, fmt.Sprintf("AddFields(%v) with %v and %v", g, a, b), got, want)
				wantEqual(t, "AddFields succeeds", ok, true)
			}
		}
	}
}

func TestScaleField(t *testing.T) {
	for _, g := range validGrids() {
		points := int(g.Wide * g.High)
		for _, by := range oddNumbers() {
			field, want := repeated(float32(3), points), repeated(times(3, by), points)
			for i, x := range oddNumbers() {
				field[i%points], want[i%points] = x, times(x, by)
			}
			got, ok := impl.ScaleField(g, field, by)
			wantField(t, fmt.Sprintf("ScaleField(%v) by %v", g, by), got, want)
			wantEqual(t, "ScaleField succeeds", ok, true)
		}
	}
}

func TestFieldsAgainstOtherNumbers(t *testing.T) {
	s := newSource()
	for range 500 {
		g, by := s.grid(), s.number()
		a, b := s.field(g), s.field(g)
		sums, products := make([]float32, len(a)), make([]float32, len(a))
		for i := range a {
			sums[i], products[i] = plus(a[i], b[i]), times(a[i], by)
		}
		got, one := impl.AddFields(g, a, b)
		wantField(t, fmt.Sprintf("AddFields(%v, %v, %v)", g, a, b), got, sums)
		got, two := impl.ScaleField(g, a, by)
		wantField(t, fmt.Sprintf("ScaleField(%v, %v, %v)", g, a, by), got, products)
		wantEqual(t, "AddFields and ScaleField succeed", one && two, true)
	}
}

// numbered is a field each number of which tells where it is.
func numbered(g impl.Grid) []float32 {
	field := make([]float32, g.Wide*g.High)
	for i := range field {
		field[i] = float32(i + 1)
	}
	return field
}

// Each number goes from its corner to another one, step by step.
func TestShiftField(t *testing.T) {
	for _, g := range validGrids() {
		field := numbered(g)
		for x := int64(-16); x <= 16; x++ {
			for y := int64(-16); y <= 16; y++ {
				want := make([]float32, len(field))
				for i, n := range field {
					u, v := int64(i)%g.Wide+x+16*g.Wide, int64(i)/g.Wide+y+16*g.High
					want[u%g.Wide+g.Wide*(v%g.High)] = n
				}
				got, ok := impl.ShiftField(g, field, x, y)
				wantField(t, fmt.Sprintf("ShiftField(%v, %d, %d)", g, x, y), got, want)
				wantEqual(t, fmt.Sprintf("ShiftField(%v, %d, %d) succeeds", g, x, y), ok, true)
			}
		}
	}
}

func TestShiftFieldTakesAnyNumbers(t *testing.T) {
	g := impl.Grid{Wide: 5, High: 6}
	field := oddNumbers()[:30]
	got, ok := impl.ShiftField(g, field, 1, 0)
	for i, x := range got {
		wantNumber(t, fmt.Sprintf("ShiftField to the right, at %d", i), x, field[i/5*5+(i+4)%5])
	}
	wantEqual(t, "ShiftField of any numbers succeeds", ok && len(got) == 30, true)
}

func TestShiftFieldLimits(t *testing.T) {
	for _, g := range validGrids() {
		field := numbered(g)
		for _, n := range []int64{17, -17, 18, 32, -32, 1 << 40, math.MaxInt64, math.MinInt64} {
			for _, m := range []int64{0, 16, -16, n} {
				wantFailures(t, []badCall{
					{fmt.Sprintf("ShiftField(%v, %d, %d)", g, n, m), call1(impl.ShiftField(g, field, n, m))},
					{fmt.Sprintf("ShiftField(%v, %d, %d)", g, m, n), call1(impl.ShiftField(g, field, m, n))},
				})
			}
		}
	}
}

func TestTotalOf(t *testing.T) {
	for _, c := range []struct {
		field []float32
		want  float32
	}{
		{nil, 0},
		{[]float32{}, 0},
		{[]float32{minusZero()}, 0},
		{[]float32{1, 2, 3.5}, 6.5},
		{[]float32{16777216, 1, 1}, 16777216},
		{[]float32{1, 1, 16777216}, 16777218},
		{[]float32{1e30, 1, -1e30}, 0},
		{[]float32{math.MaxFloat32, math.MaxFloat32, -math.MaxFloat32}, infinity()},
		{[]float32{infinity(), 1}, infinity()},
		{[]float32{infinity(), -infinity()}, notANumber()},
		{[]float32{1, notANumber()}, notANumber()},
		{[]float32{fromBits(1), fromBits(2)}, fromBits(3)},
		{repeated(float32(0.5), 256), 128},
		{repeated(float32(0.5), 17), 8.5},
	} {
		got, ok := impl.TotalOf(c.field)
		wantNumber(t, fmt.Sprintf("TotalOf(%v)", c.field), got, c.want)
		wantEqual(t, fmt.Sprintf("TotalOf(%v) succeeds", c.field), ok, true)
	}
	wantFailures(t, []badCall{
		{"TotalOf 257", call1(impl.TotalOf(repeated(float32(1), 257)))},
		{"TotalOf 1000", call1(impl.TotalOf(repeated(float32(1), 1000)))},
	})
}
