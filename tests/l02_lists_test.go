package tests

import (
	"fmt"
	"math"
	"testing"

	"loop.example/g01226/impl"
)

func wantShifted(t *testing.T, g impl.Grid, list []impl.Particle, by complex64, want []impl.Particle) {
	t.Helper()
	got, ok := impl.ShiftParticles(g, list, by)
	what := fmt.Sprintf("ShiftParticles(%v, %v, %v)", g, list, by)
	wantParticles(t, what, got, want)
	wantEqual(t, what+" succeeds", ok, true)
}

func TestShiftParticles(t *testing.T) {
	g, huge := impl.Grid{Wide: 4, High: 5}, float32(math.MaxFloat32)
	for _, c := range []struct{ at, by, want complex64 }{
		{complex(1, 2), 0, complex(1, 2)},
		{complex(1, 2), complex(0.5, -0.25), complex(1.5, 1.75)},
		{complex(3.5, 4.5), complex(0.5, 0.5), 0},
		{complex(3.5, 4.5), complex(1, 1), complex(0.5, 0.5)},
		{complex(0.5, 0.5), complex(-1, -1), complex(3.5, 4.5)},
		{complex(-9, 103), 0, complex(3, 3)},
		{complex(minusZero(), minusZero()), complex(minusZero(), minusZero()), 0},
		{complex(1, 1), complex(-1, -1), 0},
		{complex(fromBits(3), 1), complex(-fromBits(1), -fromBits(1)), complex(fromBits(2), 1)},
		{0, complex(-fromBits(1), fromBits(1)), complex(0, fromBits(1))},
		// The sum is rounded before it is wrapped.
		{complex(1, 1), complex(16777216, 33554432), complex(0, 2)},
		{complex(0.5, 0.1), complex(0x1p-25, 1000), complex(0.5, 0.099975586)},
		{complex(huge, -huge), complex(-huge, huge), 0},
		{complex(huge, 1), complex(0, -huge), 0},
		{complex(huge, -huge), complex(0x1p102, -0x1p102), 0},
	} {
		ordinary := ordinaryParticle()
		ordinary.At = c.at
		wanted := ordinary
		wanted.At = c.want
		wantShifted(t, g, []impl.Particle{ordinary}, c.by, []impl.Particle{wanted})
	}
	wantShifted(t, g, nil, complex(huge, huge), nil)
	wantShifted(t, g, []impl.Particle{}, 1, nil)
}

func TestShiftParticlesToWhatIsNotFinite(t *testing.T) {
	huge := float32(math.MaxFloat32)
	far := particleAt(complex(huge, 1), 1)
	high := particleAt(complex(1, -huge), 1)
	near := particleAt(complex(1, 1), 1)
	for _, g := range validGrids() {
		wantFailures(t, []badCall{
			{"ShiftParticles too far", call1(impl.ShiftParticles(g, []impl.Particle{far}, complex(huge, 1)))},
			{"ShiftParticles too low", call1(impl.ShiftParticles(g, []impl.Particle{high}, complex(1, -huge)))},
			{"ShiftParticles a little too far", call1(impl.ShiftParticles(g, []impl.Particle{far}, 0x1p103))},
			{"ShiftParticles, the first one", call1(impl.ShiftParticles(g, []impl.Particle{far, near}, complex(huge, 1)))},
			{"ShiftParticles, the last one", call1(impl.ShiftParticles(g, []impl.Particle{near, near, far}, complex(huge, 1)))},
		})
	}
}

func TestListsAgainstOtherNumbers(t *testing.T) {
	s := newSource()
	for range 1000 {
		g, by, list := s.grid(), s.place(), s.particles(s.Intn(65))
		shifted, turned := make([]impl.Particle, len(list)), make([]impl.Particle, len(list))
		for i, p := range list {
			shifted[i], turned[i] = p, p
			shifted[i].At = placeWanted(g, complex(plus(real(p.At), real(by)), plus(imag(p.At), imag(by))))
			turned[i].Speed = complex(times(real(p.Speed), -1), times(imag(p.Speed), -1))
		}
		wantShifted(t, g, list, by, shifted)
		wantTurned(t, list, turned)
		wantMeasures(t, list)
	}
}

func wantTurned(t *testing.T, list, want []impl.Particle) {
	t.Helper()
	got, ok := impl.TurnSpeeds(list)
	wantParticles(t, fmt.Sprintf("TurnSpeeds(%v)", list), got, want)
	wantEqual(t, fmt.Sprintf("TurnSpeeds(%v) succeeds", list), ok, true)
}

// wantMeasures tells the sums of a list by numbers that are narrowed one by one.
func wantMeasures(t *testing.T, list []impl.Particle) {
	t.Helper()
	charge, x, y, energy := float32(0), float32(0), float32(0), 0.0
	for _, p := range list {
		charge = plus(charge, p.Charge)
		x, y = plus(x, times(real(p.Speed), p.Mass)), plus(y, times(imag(p.Speed), p.Mass))
		a, b := float64(real(p.Speed)), float64(imag(p.Speed))
		energy += float64(float64(p.Mass) / 2 * (float64(a*a) + float64(b*b)))
	}
	wantSums(t, list, charge, complex(x, y), float32(energy))
}

func wantSums(t *testing.T, list []impl.Particle, charge float32, momentum complex64, energy float32) {
	t.Helper()
	gotCharge, one := impl.ChargeOf(list)
	gotMomentum, two := impl.MomentumOf(list)
	gotEnergy, three := impl.SpeedEnergyOf(list)
	wantNumber(t, fmt.Sprintf("ChargeOf(%v)", list), gotCharge, charge)
	wantComplex(t, fmt.Sprintf("MomentumOf(%v)", list), gotMomentum, momentum)
	wantNumber(t, fmt.Sprintf("SpeedEnergyOf(%v)", list), gotEnergy, energy)
	wantEqual(t, "ChargeOf, MomentumOf and SpeedEnergyOf succeed", one && two && three, true)
}

func TestTurnSpeeds(t *testing.T) {
	least, huge := fromBits(1), float32(math.MaxFloat32)
	for _, c := range [][2]complex64{
		{complex(1, 2), complex(-1, -2)},
		{complex(-0.5, 3), complex(0.5, -3)},
		{complex(0, 0), complex(minusZero(), minusZero())},
		{complex(minusZero(), 0), complex(0, minusZero())},
		{complex(0, minusZero()), complex(minusZero(), 0)},
		{complex(1, 0), complex(-1, minusZero())},
		{complex(minusZero(), 1), complex(0, -1)},
		{complex(least, -least), complex(-least, least)},
		{complex(huge, -huge), complex(-huge, huge)},
	} {
		p, q := ordinaryParticle(), ordinaryParticle()
		p.Speed, q.Speed = c[0], c[1]
		// Places stay as they are, also those outside of grids.
		p.At, q.At = complex(-100, minusZero()), complex(-100, minusZero())
		wantTurned(t, []impl.Particle{p}, []impl.Particle{q})
		wantTurned(t, []impl.Particle{p, ordinaryParticle(), q}, []impl.Particle{q, {At: complex(1.5, 2.25), Speed: complex(-0.5, 3), Charge: -2, Mass: 4}, p})
		wantTurned(t, repeated(p, 64), repeated(q, 64))
	}
	wantTurned(t, nil, nil)
	wantTurned(t, []impl.Particle{}, nil)
}

func charged(charges ...float32) []impl.Particle {
	list := make([]impl.Particle, len(charges))
	for i, x := range charges {
		list[i] = particleAt(complex(float32(i), -1), x)
	}
	return list
}

func TestChargeOf(t *testing.T) {
	huge := float32(math.MaxFloat32)
	for _, c := range []struct {
		list []impl.Particle
		want float32
	}{
		{nil, 0},
		{[]impl.Particle{}, 0},
		{charged(2), 2},
		{charged(1, -2, 3.5), 2.5},
		{charged(minusZero()), 0},
		{charged(minusZero(), minusZero()), 0},
		{charged(16777216, 1, 1), 16777216},
		{charged(1, 1, 16777216), 16777218},
		{charged(1e30, 1, -1e30), 0},
		{charged(1e30, -1e30, 1), 1},
		{charged(fromBits(1), fromBits(1)), fromBits(2)},
		{charged(huge, huge, -huge), infinity()},
		{charged(-huge, -huge), -infinity()},
		{charged(repeated(float32(-0.5), 64)...), -32},
	} {
		wantSums(t, c.list, c.want, 0, 0)
	}
}

// moving is a particle with a speed and a mass.
func moving(speed complex64, mass float32) impl.Particle {
	return impl.Particle{At: complex(1, 1), Speed: speed, Mass: mass}
}

func TestMomentumAndEnergy(t *testing.T) {
	huge, least := float32(math.MaxFloat32), fromBits(1)
	for _, c := range []struct {
		list     []impl.Particle
		momentum complex64
		energy   float32
	}{
		{nil, 0, 0},
		{[]impl.Particle{moving(complex(1, 2), 4)}, complex(4, 8), 10},
		{[]impl.Particle{moving(complex(1, -2), 4), moving(complex(-3, 1), 2)}, complex(-2, -6), 20},
		{[]impl.Particle{moving(complex(minusZero(), minusZero()), 4)}, 0, 0},
		{[]impl.Particle{moving(complex(-least, -least), 0.5)}, 0, 0},
		{[]impl.Particle{moving(complex(least, -least), 3)}, complex(fromBits(3), -fromBits(3)), 0},
		{[]impl.Particle{moving(complex(1, 0), least)}, complex(least, 0), 0},
		{[]impl.Particle{moving(complex(0, 2), least)}, complex(0, fromBits(2)), fromBits(2)},
		{[]impl.Particle{moving(1, least), moving(1, least)}, complex(fromBits(2), 0), least},
		{[]impl.Particle{moving(0x1p-100, 0x1p100)}, 1, 0x1p-101},
		{[]impl.Particle{moving(0x1p100, 0x1p-120)}, 0x1p-20, 0x1p79},
		// Momenta are rounded one by one, from left to right.
		{[]impl.Particle{moving(complex(16777216, 1), 1), moving(complex(1, 1), 1), moving(complex(1, 16777216), 1)}, complex(16777216, 16777218), 0x1p48},
		{[]impl.Particle{moving(complex(-1-0x1p-11, 1+0x1p-11), 1), moving(complex(1+0x1p-12, -1-0x1p-12), 1+0x1p-12)}, 0, 2 + 7*0x1p-12 + 0x1p-21},
		// Energies are narrowed only in the end, and come from left to right, too.
		{[]impl.Particle{moving(4096, 2), moving(1, 2), moving(1, 2)}, 8196, 16777218},
		{[]impl.Particle{moving(4096, 2), moving(1, 2), moving(0x1p-15, 2), moving(0x1p-15, 2), moving(0x1p-15, 2), moving(0x1p-15, 2)}, 8194 + 0x1p-12, 16777216},
		{[]impl.Particle{moving(0x1p-15, 2), moving(0x1p-15, 2), moving(0x1p-15, 2), moving(0x1p-15, 2), moving(1, 2), moving(4096, 2)}, 8194 + 0x1p-12, 16777218},
		{[]impl.Particle{moving(complex(4097, 1), 2)}, complex(8194, 2), 16785410},
		{[]impl.Particle{moving(complex(huge, 0), 1)}, complex(huge, 0), infinity()},
		{[]impl.Particle{moving(complex(huge, 0), 2), moving(complex(-huge, -huge), 2)}, complex(notANumber(), -infinity()), infinity()},
		{[]impl.Particle{moving(complex(huge, -huge), huge)}, complex(infinity(), -infinity()), infinity()},
		{repeated(moving(complex(1, -2), 4), 64), complex(256, -512), 640},
	} {
		wantSums(t, c.list, 0, c.momentum, c.energy)
	}
}
