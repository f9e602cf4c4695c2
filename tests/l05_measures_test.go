package tests

import (
	"fmt"
	"math"
	"testing"

	"loop.example/g01226/impl"
)

func TestLimitsOfClouds(t *testing.T) {
	wantEqual(t, "MaxCloud", impl.MaxCloud, 48)
	wantEqual(t, "MaxSteps", impl.MaxSteps, 20)
}

// cloudIn is a cloud of a grid 5 wide and 4 high, with Magnet and Back.
func cloudIn(list ...impl.Particle) impl.Cloud {
	return impl.Cloud{Grid: impl.Grid{Wide: 5, High: 4}, Particles: list, Magnet: 0.5, Back: -2}
}

func massive(mass float32, speed complex64) impl.Particle {
	return impl.Particle{At: complex(1, 2), Speed: speed, Charge: 3, Mass: mass}
}

func TestExampleOfClouds(t *testing.T) {
	c := cloudIn(massive(1, 1), massive(1, complex(0, -1)))
	wantEqual(t, "KineticOf", wordOfNumber(impl.KineticOf(c)), wordOf(true, 1))
	wantEqual(t, "CloudMomentum", wordOfComplex(impl.CloudMomentum(c)), wordOf(true, 1, -1))
	wantEqual(t, "TemperatureOf", wordOfNumber(impl.TemperatureOf(c)), wordOf(true, 0.5))
}

func TestKineticOf(t *testing.T) {
	huge, inf := float32(math.MaxFloat32), infinity()
	for _, c := range []struct {
		what string
		list []impl.Particle
		want float32
	}{
		{"none", nil, 0},
		{"one at rest", []impl.Particle{massive(7, 0)}, 0},
		{"one at rest with signs", []impl.Particle{massive(7, complex(minusZero(), minusZero()))}, 0},
		{"one", []impl.Particle{massive(4, complex(3, -4))}, 50},
		{"three", []impl.Particle{massive(2, 1), massive(4, complex(0, 2)), massive(0.5, complex(-2, 2))}, 11},
		{"a power that is narrowed", []impl.Particle{massive(2, complex(1+0x1p-12, 0))}, 1 + 0x1p-11},
		{"a half that is lost", []impl.Particle{massive(fromBits(1), 0x1p60)}, 0},
		{"a half that is rounded", []impl.Particle{massive(fromBits(3), 0x1p60)}, times(fromBits(2), 0x1p120)},
		{"a half first, as the power is great", []impl.Particle{massive(2, 0x1p63)}, 0x1p126},
		{"a power that is not finite", []impl.Particle{massive(1e-30, 1e20)}, inf},
		{"a power that is lost", []impl.Particle{massive(1e30, 1e-30)}, 0},
		{"a product that is not finite", []impl.Particle{massive(huge, 2)}, inf},
		{"a product that is rounded before it is added", []impl.Particle{massive(2, 1), massive(2*(1+0x1p-23), complex(0, 0x1p-12*(1+0x1p-12)))}, 1 + 0x1p-23},
		{"a sum that is not finite", []impl.Particle{massive(huge, 1), massive(huge, 1), massive(1, 1)}, huge},
		{"a greater sum that is not finite", []impl.Particle{massive(huge, 1), massive(huge, 1), massive(huge, 1)}, inf},
		{"small ones first", []impl.Particle{massive(2, 1), massive(2, 1), massive(0x1p25, 1)}, 0x1p24 + 2},
		{"small ones last", []impl.Particle{massive(0x1p25, 1), massive(2, 1), massive(2, 1)}, 0x1p24},
	} {
		got, ok := impl.KineticOf(cloudIn(c.list...))
		wantEqual(t, "KineticOf "+c.what, wordOfNumber(got, ok), wordOf(true, c.want))
	}
}

func TestCloudMomentum(t *testing.T) {
	huge, inf := float32(math.MaxFloat32), infinity()
	for _, c := range []struct {
		what string
		list []impl.Particle
		want complex64
	}{
		{"none", nil, 0},
		{"one at rest with signs", []impl.Particle{massive(7, complex(minusZero(), minusZero()))}, 0},
		{"one", []impl.Particle{massive(4, complex(3, -4))}, complex(12, -16)},
		{"three", []impl.Particle{massive(2, 1), massive(4, complex(0, 2)), massive(0.5, complex(-2, 2))}, complex(1, 9)},
		{"small ones first", []impl.Particle{massive(1, 1), massive(1, 1), massive(0x1p24, 1)}, 0x1p24 + 2},
		{"small ones last", []impl.Particle{massive(0x1p24, 1), massive(1, 1), massive(1, 1)}, 0x1p24},
		{"one part that is not finite", []impl.Particle{massive(2, complex(huge, 1))}, complex(inf, 2)},
		{"opposite ones that are not finite", []impl.Particle{massive(2, complex(huge, -huge)), massive(2, complex(-huge, -huge))}, complex(notANumber(), -inf)},
		{"opposite ones", []impl.Particle{massive(1, complex(huge, -huge)), massive(1, complex(-huge, huge))}, 0},
	} {
		got, ok := impl.CloudMomentum(cloudIn(c.list...))
		wantEqual(t, "CloudMomentum of "+c.what, wordOfComplex(got, ok), wordOf(true, partsOf(c.want)...))
	}
}

func TestTotalCharge(t *testing.T) {
	huge, inf := float32(math.MaxFloat32), infinity()
	for _, c := range []struct {
		charges []float32
		want    float32
	}{
		{nil, 0},
		{[]float32{minusZero()}, 0},
		{[]float32{minusZero(), minusZero(), 0}, 0},
		{[]float32{-fromBits(1)}, -fromBits(1)},
		{[]float32{1, -2, 0.5}, -0.5},
		{[]float32{1, 1, 0x1p24}, 0x1p24 + 2},
		{[]float32{0x1p24, 1, 1}, 0x1p24},
		{[]float32{1e30, 1, -1e30}, 0},
		{[]float32{huge, huge}, inf},
		{[]float32{huge, huge, -huge}, inf},
		{[]float32{huge, -huge, huge}, huge},
		{[]float32{-huge, -huge, huge}, -inf},
		{repeated(float32(0.25), 48), 12},
	} {
		var list []impl.Particle
		for _, x := range c.charges {
			list = append(list, particleAt(complex(-9, 100), x))
		}
		got, ok := impl.TotalCharge(cloudIn(list...))
		wantEqual(t, fmt.Sprint("TotalCharge of ", c.charges), wordOfNumber(got, ok), wordOf(true, c.want))
	}
}

func TestTemperatureOf(t *testing.T) {
	huge, inf := float32(math.MaxFloat32), infinity()
	for _, c := range []struct {
		what   string
		speeds []complex64
		want   float32
	}{
		{"one", []complex64{complex(3, -7)}, 0},
		{"one with signs", []complex64{complex(minusZero(), minusZero())}, 0},
		{"equal ones", repeated(complex64(complex(3, -7)), 48), 0},
		{"equal ones whose sum is rounded", repeated(complex64(complex(0, 1+0x1p-22)), 8), 0x1p-46},
		{"opposite ones", []complex64{complex(1, 2), complex(-1, -2)}, 5},
		{"three", []complex64{3, complex(0, 3), complex(-3, -3)}, 12},
		{"three with a mean", []complex64{complex(13, 10), complex(10, 13), complex(7, 7)}, 12},
		{"four", []complex64{1, 2, 3, 6}, 3.5},
		{"one that is great", []complex64{complex(huge, -huge)}, 0},
		{"opposite ones that are great", []complex64{complex(huge, 0), complex(-huge, 0)}, inf},
		{"a mean that is not finite", []complex64{complex(0, huge), complex(0, huge)}, inf},
		{"sums that are not finite before the last one", []complex64{complex(huge, 1), complex(huge, 1), complex(-huge, 1)}, inf},
		{"great ones whose sum is finite", []complex64{complex(huge, 1), complex(-huge, 1), complex(huge, 1)}, inf},
		{"a power that is lost", []complex64{complex(1e-30, 0), complex(-1e-30, 0)}, 0},
	} {
		var list []impl.Particle
		for i, speed := range c.speeds {
			list = append(list, massive(float32(i+1), speed))
		}
		got, ok := impl.TemperatureOf(cloudIn(list...))
		wantEqual(t, "TemperatureOf "+c.what, wordOfNumber(got, ok), wordOf(true, c.want))
	}
}

func TestTemperatureNeedsParticles(t *testing.T) {
	for _, g := range allGrids() {
		for _, list := range [][]impl.Particle{nil, {}, make([]impl.Particle, 0, 9)} {
			wantFailures(t, []badCall{{"TemperatureOf none", call1(impl.TemperatureOf(impl.Cloud{Grid: g, Particles: list}))}})
		}
	}
}

// Speeds that all get another one more are as hot as before, nearly.
func TestTemperatureTakesTheMeanAway(t *testing.T) {
	s := newSource()
	for range 1000 {
		c := s.gentleCloud(1 + s.Intn(48))
		before, one := impl.TemperatureOf(c)
		for i := range c.Particles {
			c.Particles[i].Speed += complex(5, -3)
		}
		after, two := impl.TemperatureOf(c)
		wantEqual(t, "TemperatureOf succeeds", one && two, true)
		wantNear(t, "TemperatureOf", []float32{after}, []float32{before}, 1e-5)
	}
}

// Without speeds, the energy is that of the field, and without charges, that of
// the speeds, for any Back.
func TestEnergyOf(t *testing.T) {
	s := newSource()
	for range 300 {
		c, rounds := s.gentleCloud(s.Intn(49)), s.Int63n(61)
		v, _ := impl.PotentialOf(c, rounds)
		charge, _ := impl.CloudCharge(c)
		stored, _ := impl.FieldEnergy(c.Grid, v, charge)
		kinetic, _ := impl.KineticOf(c)
		wantEqual(t, "EnergyOf", wordOfNumber(impl.EnergyOf(c, rounds)), wordOf(true, plus(kinetic, stored)))
		resting, neutral := c, c
		resting.Particles, neutral.Particles = nil, nil
		for _, p := range c.Particles {
			p, q := p, p
			p.Speed, q.Charge = 0, 0
			resting.Particles, neutral.Particles = append(resting.Particles, p), append(neutral.Particles, q)
		}
		neutral.Back = 0
		wantEqual(t, "EnergyOf particles at rest", wordOfNumber(impl.EnergyOf(resting, rounds)), wordOf(true, plus(0, stored)))
		wantEqual(t, "EnergyOf particles without charge", wordOfNumber(impl.EnergyOf(neutral, rounds)), wordOf(true, kinetic))
	}
}

// Two charges have more energy near each other than far from each other, and
// charges with different signs less.
func TestEnergyOfPairs(t *testing.T) {
	g := impl.Grid{Wide: 16, High: 16}
	energy := func(way, charge float32) float32 {
		e, ok := impl.EnergyOf(impl.Cloud{Grid: g, Particles: []impl.Particle{particleAt(complex(3, 8), 1), particleAt(complex(3+way, 8), charge)}}, 60)
		wantEqual(t, "EnergyOf succeeds", ok, true)
		return e
	}
	for way := float32(1); way < 8; way++ {
		if near, far := energy(way, 1), energy(way+1, 1); near <= far {
			t.Errorf("equal charges: %v at %v, %v one farther", near, way, far)
		}
		if near, far := energy(way, -1), energy(way+1, -1); near >= far {
			t.Errorf("opposite charges: %v at %v, %v one farther", near, way, far)
		}
	}
}
