package tests

import (
	"fmt"
	"math"
	"testing"

	"loop.example/g01226/impl"
)

func wantOrbit(t *testing.T, p impl.Particle, field complex64, magnet, tick float32, steps int64) {
	t.Helper()
	what := fmt.Sprintf("OrbitOf(%v, %v, %v, %v, %d)", p, field, magnet, tick, steps)
	got, ok := impl.OrbitOf(p, field, magnet, tick, steps)
	want, wanted := orbitWanted(p, field, magnet, tick, steps)
	if !wanted {
		want = nil
	}
	wantEqual(t, what+" succeeds", ok, wanted)
	wantEqual(t, what, wordOf(true, partsOf(got...)...), wordOf(true, partsOf(want...)...))
}

func TestOrbitOf(t *testing.T) {
	p := pulled(1, 2)
	for _, c := range []struct {
		field        complex64
		magnet, tick float32
		steps        int64
		want         []complex64
	}{
		{0, 0, 0.5, 0, nil},
		{0, 0, 0.5, 2, []complex64{complex(2, 1), complex(3, 1)}},
		{0, 0, -0.5, 2, []complex64{complex(0, 1), complex(-1, 1)}},
		{0, 0, 0, 2, []complex64{complex(1, 1), complex(1, 1)}},
		{complex(2, -4), 0, 1, 2, []complex64{complex(5, -3), complex(11, -11)}},
		// Each turn by -i goes a quarter around.
		{0, 2, 1, 4, []complex64{complex(1, -1), complex(-1, -1), complex(-1, 1), complex(1, 1)}},
		{0, -2, 1, 4, []complex64{complex(1, 3), complex(-1, 3), complex(-1, 1), complex(1, 1)}},
		{0, 2, -1, 3, []complex64{complex(1, -1), complex(3, -1), complex(3, 1)}},
		// Half a turn at a time goes to and fro.
		{0, math.MaxFloat32, 1, 2, []complex64{complex(-1, 1), complex(1, 1)}},
	} {
		got, ok := impl.OrbitOf(p, c.field, c.magnet, c.tick, c.steps)
		what := fmt.Sprintf("OrbitOf %v", c)
		wantEqual(t, what+" succeeds", ok, true)
		wantEqual(t, what+", how many", len(got), len(c.want))
		for k := range min(len(got), len(c.want)) {
			wantNearby(t, what, got[k], c.want[k], 1e-6)
		}
	}
}

// Orbits have no grid, so that their places are not wrapped.
func TestOrbitOfGoesFar(t *testing.T) {
	got, ok := impl.OrbitOf(impl.Particle{At: complex(minusZero(), minusZero()), Speed: complex(100, -1000), Mass: 1}, 0, 0, 1, 64)
	for k, at := range got {
		wantComplex(t, fmt.Sprintf("place %d", k), at, complex(100*float32(k+1), -1000*float32(k+1)))
	}
	wantEqual(t, "OrbitOf succeeds", fmt.Sprint(len(got), ok), "64 true")
}

func TestOrbitsAgainstOtherNumbers(t *testing.T) {
	s := newSource()
	for range 2000 {
		p, a := s.particles(1)[0], s.gentle()
		wantOrbit(t, p, s.place(), s.number(), s.number(), s.Int63n(65))
		wantOrbit(t, a.p, s.place(), a.magnet, a.tick, s.Int63n(65))
		p.Charge = s.finiteBits()
		wantOrbit(t, p, complex(s.finiteBits(), s.number()), s.finiteBits(), s.finiteBits(), s.Int63n(4))
	}
	for _, x := range edgeNumbers() {
		for _, y := range edgeNumbers() {
			wantOrbit(t, impl.Particle{At: complex(x, 1), Speed: complex(y, x), Charge: 1, Mass: 1}, complex(0, y), 1, 0.5, 3)
			wantOrbit(t, impl.Particle{At: complex(1, x), Speed: complex(1, y), Charge: y, Mass: 1}, 1, x, 0.5, 3)
			wantOrbit(t, impl.Particle{At: complex(1, x), Speed: complex(1, 2), Charge: 1, Mass: 1}, complex(x, 1), 1, y, 3)
		}
	}
}

// An orbit fails where one of its places is not finite, and not before.
func TestOrbitsThatLeaveTheFiniteNumbers(t *testing.T) {
	p := impl.Particle{Speed: 0x1p126, Mass: 1}
	for steps := range int64(6) {
		got, ok := impl.OrbitOf(p, 0, 0, 1, steps)
		if steps > 3 {
			wantFailures(t, []badCall{{"OrbitOf beyond the finite numbers", results(got, ok)}})
		} else {
			wantEqual(t, "OrbitOf up to the greatest numbers", fmt.Sprint(len(got), ok), fmt.Sprint(steps, true))
		}
	}
}

// Around OrbitCentre, with RadiusOf, goes a particle with a small tick.
func TestOrbitsGoAroundTheirCentres(t *testing.T) {
	s := newSource()
	for range 500 {
		p := s.gentle().p
		p.Charge = 1 + float32(s.Float64())
		magnet := float32(1 + s.Float64())
		if s.Intn(2) == 0 {
			magnet = -magnet
		}
		centre, one := impl.OrbitCentre(p, magnet)
		radius, two := impl.RadiusOf(p, magnet)
		orbit, three := impl.OrbitOf(p, 0, magnet, 0.01, 64)
		wantEqual(t, "OrbitCentre, RadiusOf and OrbitOf succeed", one && two && three, true)
		for _, at := range orbit {
			if far := impl.LongOf(at - centre); math.Abs(float64(far-radius)) > 0.05 {
				t.Fatalf("%v is %v from %v, with the radius %v", at, far, centre, radius)
			}
		}
	}
}

func TestRadiusOf(t *testing.T) {
	huge, inf := float32(math.MaxFloat32), infinity()
	for _, c := range []struct {
		charge float32
		speed  complex64
		magnet float32
		want   float32
	}{
		{1, complex(3, 4), 2, 2.5},
		{-1, complex(3, 4), 2, 2.5},
		{1, complex(-3, 4), -2, 2.5},
		{-4, complex(3, -4), -0.5, 2.5},
		{1, 0, 2, 0},
		{1, complex(minusZero(), minusZero()), -2, 0},
		{1, 1, 3, fromBits(0x3eaaaaab)},
		{1, 0, 0, inf},
		{1, 1, 0, inf},
		{1, 1, minusZero(), inf},
		{0, 1, 2, inf},
		{minusZero(), 1, 2, inf},
		{1e-30, 1, 1e-30, inf},
		{1, complex(huge, 0), 1, huge},
		{1, complex(huge, 0), 0.5, inf},
		{1, complex(huge, huge), 1, inf},
		{1, complex(huge, huge), 1e38, inf},
		{1e30, complex(huge, huge), 1e30, inf},
		// An infinity as the product of pull and magnet leaves a radius of zero.
		{1e30, complex(3, 4), 1e30, 0},
		{-1e30, complex(3, 4), 1e30, 0},
		{1e30, 0, -1e30, 0},
		{1, 1, huge, 0x1p-128},
	} {
		got, ok := impl.RadiusOf(pulled(c.charge, c.speed), c.magnet)
		wantFiniteNumber(t, fmt.Sprintf("RadiusOf %v", c), got, ok, c.want)
	}
}

func TestTurnsOf(t *testing.T) {
	for _, c := range []struct{ charge, magnet, tick, want float32 }{
		{1, 2, 1, -0.25},
		{-1, 2, 1, 0.25},
		{1, -2, 1, 0.25},
		{1, 2, -1, 0.25},
		{1, 0, 1, 0},
		{1, minusZero(), 1, 0},
		{-1, 0, 1, 0},
		{0, 2, 1, 0},
		{1, 2, 0, 0},
		{1, 2, minusZero(), 0},
		{1, 1e10, 2, -0.5},
		{1, -1e10, 2, 0.5},
		{1, math.MaxFloat32, 2, -0.5},
		{-1, math.MaxFloat32, 2, 0.5},
		{1, math.MaxFloat32, 4, infinity()},
		{1e30, 1e30, 1e-30, infinity()},
	} {
		got, ok := impl.TurnsOf(pulled(c.charge, 1), c.magnet, c.tick)
		wantFiniteNumber(t, fmt.Sprintf("TurnsOf %v", c), got, ok, c.want)
	}
}

// The tangent of half of the angle is t, also for a quarter and more.
func TestTurnsOfAreAngles(t *testing.T) {
	s := newSource()
	for range 20000 {
		p, magnet, tick := s.particles(1)[0], s.number(), s.number()
		half := float64(pullWanted(p)) * float64(magnet) * float64(tick) / 2
		got, ok := impl.TurnsOf(p, magnet, tick)
		wantEqual(t, "TurnsOf succeeds", ok, true)
		if want := -math.Atan(half) / math.Pi; math.Abs(float64(got)-want) > 1e-6*math.Abs(want) {
			t.Errorf("TurnsOf(%v, %v, %v): got %v, want nearly %v", p, magnet, tick, got, want)
		}
		turn, _ := impl.TurnOf(p, magnet, tick)
		wantNumber(t, "TurnsOf is AngleOf TurnOf", got, impl.AngleOf(turn))
	}
}

func TestCrossSpeed(t *testing.T) {
	least, huge, inf := fromBits(1), float32(math.MaxFloat32), infinity()
	for _, c := range []struct {
		field  complex64
		magnet float32
		want   complex64
	}{
		{4, 2, complex(0, -2)},
		{4, -2, complex(0, 2)},
		{complex(0, 4), 2, 2},
		{complex(3, -6), 2, complex(-3, -1.5)},
		{complex(3, -6), -2, complex(3, 1.5)},
		{0, 2, 0},
		{complex(minusZero(), minusZero()), 2, complex(minusZero(), 0)},
		{4, 0, complex(inf, inf)},
		{4, minusZero(), complex(inf, inf)},
		{0, 0, complex(inf, inf)},
		{complex(huge, 1), 1, complex(1, -huge)},
		{complex(huge, 1), 0.5, complex(inf, inf)},
		{complex(1, huge), 0.5, complex(inf, inf)},
		{complex(1e-6, 0), least, complex(inf, inf)},
		{complex(2*least, 4*least), least, complex(4, -2)},
		{complex(1, huge), huge, complex(1, -0x1p-128)},
	} {
		got, ok := impl.CrossSpeed(c.field, c.magnet)
		wantFiniteComplex(t, fmt.Sprintf("CrossSpeed %v", c), got, ok, c.want)
	}
}

// With its CrossSpeed, a particle stays at its speed, nearly.
func TestCrossSpeedPushesNothing(t *testing.T) {
	s := newSource()
	for range 2000 {
		a := s.gentle()
		field, magnet := complex(a.x[0], a.y[0]), a.magnet+float32(math.Copysign(0.5, float64(a.magnet)))
		speed, one := impl.CrossSpeed(field, magnet)
		a.p.Speed = speed
		pushed, two := impl.PushSpeed(a.p, field, magnet, a.tick)
		wantEqual(t, "CrossSpeed and PushSpeed succeed", one && two, true)
		wantNearby(t, fmt.Sprintf("the cross speed of %v and %v", field, magnet), pushed, speed, 3e-6)
	}
}

func TestOrbitCentre(t *testing.T) {
	huge, inf := float32(math.MaxFloat32), infinity()
	for _, c := range []struct {
		charge    float32
		at, speed complex64
		magnet    float32
		want      complex64
	}{
		{1, complex(1, 1), 2, 2, 1},
		{-1, complex(1, 1), 2, 2, complex(1, 2)},
		{1, complex(1, 1), 2, -2, complex(1, 2)},
		{4, complex(1, 1), complex(3, -6), 0.5, complex(-2, -0.5)},
		{1, complex(5, -7), 0, 2, complex(5, -7)},
		{1, complex(1, 1), 2, 0, complex(inf, inf)},
		{0, complex(1, 1), 2, 2, complex(inf, inf)},
		{1, complex(1, 1), 0, minusZero(), complex(inf, inf)},
		{1e-30, complex(1, 1), 2, 1e-30, complex(inf, inf)},
		{1e30, complex(1, 1), 2, 1e30, complex(inf, inf)},
		{1e30, complex(1, 1), 0, -1e30, complex(inf, inf)},
		{1, complex(1, huge), complex(-huge, 0), 1, complex(inf, inf)},
		{1, complex(1, huge), complex(huge, 0), 1, complex(1, 0)},
		{1, complex(huge, 1), complex(0, huge), 1, complex(inf, inf)},
		{1, complex(1, 1), complex(huge, 1), 0.5, complex(inf, inf)},
		{1, complex(16777216, 16777216), complex(1, -1), 1, complex(16777215, 16777215)},
		{1, complex(16777216, 16777216), complex(-1, 1), 1, complex(16777216, 16777216)},
	} {
		p := pulled(c.charge, c.speed)
		p.At = c.at
		got, ok := impl.OrbitCentre(p, c.magnet)
		wantFiniteComplex(t, fmt.Sprintf("OrbitCentre %v", c), got, ok, c.want)
	}
}

func TestOrbitMeasuresAgainstOtherNumbers(t *testing.T) {
	s := newSource()
	check := func(p impl.Particle, field complex64, magnet float32) {
		t.Helper()
		what := fmt.Sprintf("(%v, %v, %v)", p, field, magnet)
		radius, ok := impl.RadiusOf(p, magnet)
		wantFiniteNumber(t, "RadiusOf"+what, radius, ok, radiusWanted(p, magnet))
		speed, ok := impl.CrossSpeed(field, magnet)
		wantFiniteComplex(t, "CrossSpeed"+what, speed, ok, crossWanted(field, magnet))
		centre, ok := impl.OrbitCentre(p, magnet)
		wantFiniteComplex(t, "OrbitCentre"+what, centre, ok, centreWanted(p, magnet))
	}
	for range 10000 {
		p := s.particles(1)[0]
		check(p, s.place(), s.number())
		p.Charge, p.Speed = s.finiteBits(), complex(s.finiteBits(), s.finiteBits())
		check(p, complex(s.finiteBits(), s.number()), s.finiteBits())
	}
	for _, x := range edgeNumbers() {
		for _, y := range edgeNumbers() {
			for _, magnet := range edgeNumbers() {
				check(impl.Particle{At: complex(y, x), Speed: complex(x, y), Charge: 1, Mass: 1}, complex(x, y), magnet)
				check(impl.Particle{At: 1, Speed: complex(y, x), Charge: x, Mass: 2}, complex(x, 0), magnet)
			}
		}
	}
}

// Zeros of all signs come together.
func TestOrbitCentreOfZeros(t *testing.T) {
	zeros := []float32{0, minusZero()}
	for _, x := range zeros {
		for _, y := range zeros {
			for _, u := range zeros {
				for _, v := range zeros {
					for _, magnet := range []float32{1, -1} {
						p := impl.Particle{At: complex(x, y), Speed: complex(u, v), Charge: 1, Mass: 1}
						centre, ok := impl.OrbitCentre(p, magnet)
						wantFiniteComplex(t, fmt.Sprintf("OrbitCentre(%v, %v)", p, magnet), centre, ok, centreWanted(p, magnet))
					}
				}
			}
		}
	}
	centre, ok := impl.OrbitCentre(impl.Particle{At: complex(minusZero(), 1), Speed: complex(minusZero(), 0), Charge: 1, Mass: 1}, 1)
	wantFiniteComplex(t, "OrbitCentre at -0", centre, ok, complex(minusZero(), 1))
}
