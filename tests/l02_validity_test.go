package tests

import (
	"fmt"
	"math"
	"slices"
	"testing"

	"loop.example/g01226/impl"
)

func TestLimitsOfGrids(t *testing.T) {
	wantEqual(t, "MaxSide", impl.MaxSide, 16)
	wantEqual(t, "MaxParticles", impl.MaxParticles, 64)
}

func TestValidGrid(t *testing.T) {
	for wide := int64(-20); wide <= 20; wide++ {
		for high := int64(-20); high <= 20; high++ {
			want := wide >= 4 && wide <= 16 && high >= 4 && high <= 16
			wantEqual(t, fmt.Sprintf("ValidGrid(%d, %d)", wide, high), impl.ValidGrid(impl.Grid{Wide: wide, High: high}), want)
		}
	}
	for _, g := range invalidGrids() {
		wantEqual(t, fmt.Sprintf("ValidGrid(%v)", g), impl.ValidGrid(g), false)
	}
}

func TestValidParticle(t *testing.T) {
	for _, at := range []complex64{0, complex(minusZero(), minusZero()), complex(-1, 100), complex(math.MaxFloat32, -math.MaxFloat32), complex(fromBits(1), -fromBits(1))} {
		for _, charge := range []float32{0, minusZero(), 1, -1, fromBits(1), -fromBits(1), math.MaxFloat32, -math.MaxFloat32} {
			for _, mass := range []float32{1, fromBits(1), math.MaxFloat32} {
				p := impl.Particle{At: at, Speed: complex(imag(at), real(at)), Charge: charge, Mass: mass}
				wantEqual(t, fmt.Sprintf("ValidParticle(%v)", p), impl.ValidParticle(p), true)
			}
		}
	}
	for _, p := range invalidParticles() {
		wantEqual(t, fmt.Sprintf("ValidParticle(%v)", p), impl.ValidParticle(p), false)
	}
}

func TestAreParticles(t *testing.T) {
	ordinary := ordinaryParticle()
	for n := range 70 {
		wantEqual(t, fmt.Sprintf("AreParticles of %d", n), impl.AreParticles(repeated(ordinary, n)), n <= 64)
	}
	wantEqual(t, "AreParticles of nil", impl.AreParticles(nil), true)
	wantEqual(t, "AreParticles of none", impl.AreParticles([]impl.Particle{}), true)
	for i := range 64 {
		list := repeated(ordinary, 64)
		list[i].Mass = 0
		wantEqual(t, fmt.Sprintf("AreParticles with an invalid one at %d", i), impl.AreParticles(list), false)
	}
	for _, list := range invalidLists() {
		wantEqual(t, fmt.Sprintf("AreParticles(%.200v)", list), impl.AreParticles(list), false)
	}
}

// particleOf makes a particle of its six numbers.
func particleOf(n [6]float32) impl.Particle {
	return impl.Particle{At: complex(n[0], n[1]), Speed: complex(n[2], n[3]), Charge: n[4], Mass: n[5]}
}

func TestSameParticlesTellsEachNumber(t *testing.T) {
	for i := range 6 {
		for _, x := range oddNumbers() {
			for _, y := range oddNumbers() {
				a, b := [6]float32{1, 2, 3, 4, 5, 6}, [6]float32{1, 2, 3, 4, 5, 6}
				a[i], b[i] = x, y
				got := impl.SameParticles([]impl.Particle{ordinaryParticle(), particleOf(a)}, []impl.Particle{ordinaryParticle(), particleOf(b)})
				wantEqual(t, fmt.Sprintf("SameParticles with %v and %v as number %d", x, y, i), got, sameBits(x, y))
			}
		}
	}
}

func TestSameParticlesTellsLists(t *testing.T) {
	p, q := ordinaryParticle(), particleAt(1, 1)
	for _, c := range []struct {
		a, b []impl.Particle
		want bool
	}{
		{nil, nil, true},
		{nil, []impl.Particle{}, true},
		{[]impl.Particle{}, nil, true},
		{[]impl.Particle{p}, nil, false},
		{nil, []impl.Particle{p}, false},
		{[]impl.Particle{p}, []impl.Particle{p}, true},
		{[]impl.Particle{p}, []impl.Particle{q}, false},
		{[]impl.Particle{p, q}, []impl.Particle{p, q}, true},
		{[]impl.Particle{p, q}, []impl.Particle{q, p}, false},
		{[]impl.Particle{p, q}, []impl.Particle{p}, false},
		{[]impl.Particle{p}, []impl.Particle{p, q}, false},
		{[]impl.Particle{q, p}, []impl.Particle{p, p}, false},
		// Neither the number of particles nor their validity matters.
		{repeated(p, 65), repeated(p, 65), true},
		{repeated(p, 65), repeated(p, 64), false},
		{repeated(p, 300), repeated(p, 300), true},
		{repeated(p, 65), append(repeated(p, 64), q), false},
		{invalidParticles(), invalidParticles(), true},
		{[]impl.Particle{{}}, []impl.Particle{{}}, true},
		{[]impl.Particle{{}}, []impl.Particle{{Mass: minusZero()}}, false},
		{[]impl.Particle{{Charge: notANumber()}}, []impl.Particle{{Charge: fromBits(0x7fc00000)}}, true},
	} {
		wantEqual(t, fmt.Sprintf("SameParticles(%.100v, %.100v)", c.a, c.b), impl.SameParticles(c.a, c.b), c.want)
	}
}

func TestIsField(t *testing.T) {
	for _, g := range validGrids() {
		points := int(g.Wide * g.High)
		for _, n := range []int{0, 1, points - 1, points, points + 1, 2 * points, 1000} {
			wantEqual(t, fmt.Sprintf("IsField(%v) of %d", g, n), impl.IsField(g, make([]float32, n)), n == points)
		}
		wantEqual(t, fmt.Sprintf("IsField(%v) of nil", g), impl.IsField(g, nil), false)
		for _, x := range oddNumbers() {
			wantEqual(t, fmt.Sprintf("IsField(%v) of %v", g, x), impl.IsField(g, repeated(x, points)), true)
		}
	}
	for _, g := range invalidGrids() {
		for _, n := range []int{0, 1, 9, 12, 16, 64, 68, 289} {
			wantEqual(t, fmt.Sprintf("IsField(%v) of %d", g, n), impl.IsField(g, make([]float32, n)), false)
		}
	}
}

// badCall is a call that must fail, told by its results.
type badCall struct {
	what    string
	results []any
}

// wantFailures tells whether all results are zero values, the last one false.
func wantFailures(t *testing.T, calls []badCall) {
	t.Helper()
	zeros := []string{"", "0", "(0+0i)", "[]", "{0 0}", "{(0+0i) (0+0i) 0 0}", "{(0+0i) 0 0}", "{{0 0} [] 0 0}", "{[]}", "false"}
	for _, c := range calls {
		for i, x := range c.results {
			last := i == len(c.results)-1
			if s := fmt.Sprint(x); !slices.Contains(zeros, s) || last != (s == "false") {
				t.Errorf("%s: result %d is %s", c.what, i, s)
			}
		}
	}
}

func results(list ...any) []any {
	return list
}

func call1[T any](x T, ok bool) []any {
	return results(x, ok)
}

func call2[T, U any](x T, y U, ok bool) []any {
	return results(x, y, ok)
}

func call3[T, U, V any](x T, y U, z V, ok bool) []any {
	return results(x, y, z, ok)
}

// callsOfGrid are all functions with a grid.
func callsOfGrid(g impl.Grid, field []float32, list []impl.Particle, at complex64) []badCall {
	return []badCall{
		{fmt.Sprintf("WrapPlace(%v, %v)", g, at), call1(impl.WrapPlace(g, at))},
		{fmt.Sprintf("CellOf(%v, %v)", g, at), call1(impl.CellOf(g, at))},
		{fmt.Sprintf("WayBetween(%v, %v, 1)", g, at), call1(impl.WayBetween(g, at, 1))},
		{fmt.Sprintf("WayBetween(%v, 1, %v)", g, at), call1(impl.WayBetween(g, 1, at))},
		{fmt.Sprintf("WayBetween(%v, %v, %v)", g, at, at), call1(impl.WayBetween(g, at, at))},
		{fmt.Sprintf("SharesAt(%v, %v)", g, at), call2(impl.SharesAt(g, at))},
		{fmt.Sprintf("GatherOne(%v, %d numbers, %v)", g, len(field), at), call1(impl.GatherOne(g, field, at))},
		{fmt.Sprintf("GatherTwo(%v, %d numbers, %v)", g, len(field), at), call1(impl.GatherTwo(g, field, field, at))},
		{fmt.Sprintf("ShiftParticles(%v, %d particles, %v)", g, len(list), at), call1(impl.ShiftParticles(g, list, at))},
	}
}

func TestGridsMustBeValid(t *testing.T) {
	list := []impl.Particle{ordinaryParticle()}
	for _, g := range invalidGrids() {
		for _, n := range []int{0, 9, 12, 16, 64, 68} {
			field := repeated(float32(1), n)
			wantFailures(t, callsOfGrid(g, field, list, complex(1, 2)))
			wantFailures(t, callsOfGrid(g, field, nil, 0))
			wantFailures(t, []badCall{
				{fmt.Sprintf("AddFields(%v) of %d", g, n), call1(impl.AddFields(g, field, field))},
				{fmt.Sprintf("ScaleField(%v) of %d", g, n), call1(impl.ScaleField(g, field, 2))},
				{fmt.Sprintf("ShiftField(%v) of %d", g, n), call1(impl.ShiftField(g, field, 1, 1))},
			})
		}
		wantFailures(t, []badCall{
			{fmt.Sprintf("DepositOf(%v)", g), call1(impl.DepositOf(g, list))},
			{fmt.Sprintf("DepositOf(%v) none", g), call1(impl.DepositOf(g, nil))},
			{fmt.Sprintf("CountCells(%v)", g), call1(impl.CountCells(g, list))},
			{fmt.Sprintf("CountCells(%v) of none", g), call1(impl.CountCells(g, nil))},
		})
	}
}

func TestPlacesMustBeFinite(t *testing.T) {
	for _, g := range validGrids() {
		field := make([]float32, g.Wide*g.High)
		for _, at := range badPlaces() {
			wantFailures(t, callsOfGrid(g, field, []impl.Particle{ordinaryParticle()}, at))
			wantFailures(t, callsOfGrid(g, field, nil, at))
		}
	}
}

func TestListsMustBeOfParticles(t *testing.T) {
	for _, g := range validGrids() {
		for _, list := range invalidLists() {
			wantFailures(t, []badCall{
				{fmt.Sprintf("DepositOf(%v, %.200v)", g, list), call1(impl.DepositOf(g, list))},
				{fmt.Sprintf("CountCells(%v, %.200v)", g, list), call1(impl.CountCells(g, list))},
				{fmt.Sprintf("ShiftParticles(%v, %.200v)", g, list), call1(impl.ShiftParticles(g, list, 1))},
				{fmt.Sprintf("TurnSpeeds(%.200v)", list), call1(impl.TurnSpeeds(list))},
				{fmt.Sprintf("ChargeOf(%.200v)", list), call1(impl.ChargeOf(list))},
				{fmt.Sprintf("MomentumOf(%.200v)", list), call1(impl.MomentumOf(list))},
				{fmt.Sprintf("SpeedEnergyOf(%.200v)", list), call1(impl.SpeedEnergyOf(list))},
			})
		}
	}
}

func TestFieldsMustBeOfTheGrid(t *testing.T) {
	for _, g := range validGrids() {
		points := int(g.Wide * g.High)
		right := repeated(float32(1), points)
		for _, n := range []int{0, 1, points - 1, points + 1, 2 * points} {
			wrong := repeated(float32(1), n)
			what := fmt.Sprintf("(%v) of %d", g, n)
			wantFailures(t, []badCall{
				{"GatherOne" + what, call1(impl.GatherOne(g, wrong, 1))},
				{"GatherTwo, first," + what, call1(impl.GatherTwo(g, wrong, right, 1))},
				{"GatherTwo, second," + what, call1(impl.GatherTwo(g, right, wrong, 1))},
				{"GatherTwo, both," + what, call1(impl.GatherTwo(g, wrong, wrong, 1))},
				{"AddFields, first," + what, call1(impl.AddFields(g, wrong, right))},
				{"AddFields, second," + what, call1(impl.AddFields(g, right, wrong))},
				{"AddFields, both," + what, call1(impl.AddFields(g, wrong, wrong))},
				{"ScaleField" + what, call1(impl.ScaleField(g, wrong, 1))},
				{"ShiftField" + what, call1(impl.ShiftField(g, wrong, 0, 0))},
			})
		}
	}
}
