package tests

import (
	"fmt"
	"math"
	"testing"

	"loop.example/g01226/impl"
)

// chargesOver is the sum of what CloudCharge returns, without Back.
func chargesOver(t *testing.T, c impl.Cloud) float64 {
	t.Helper()
	field, ok := impl.CloudCharge(c)
	wantEqual(t, inGrid("CloudCharge succeeds", c.Grid), ok, true)
	sum := 0.0
	for _, x := range field {
		sum += float64(x) - float64(c.Back)
	}
	return sum
}

func wantCharge(t *testing.T, what string, c impl.Cloud, want, most float64) {
	t.Helper()
	total, ok := impl.TotalCharge(c)
	wantEqual(t, what+", TotalCharge succeeds", ok, true)
	for _, got := range []float64{chargesOver(t, c), float64(total)} {
		if far := math.Abs(got - want); !(far <= most) {
			t.Errorf("%s: the charges are %v, which is %v from %v", what, got, far, want)
		}
	}
}

// exactCloud has numbers whose sums and shares are exact.
func (s source) exactCloud(n int) impl.Cloud {
	return impl.Cloud{Grid: s.grid(), Particles: s.exactParticles(n), Magnet: 2, Back: float32(s.Intn(64)-32) / 4}
}

func TestCloudsKeepTheirCharge(t *testing.T) {
	s := newSource()
	for range 1000 {
		c := s.exactCloud(s.Intn(49))
		want := 0.0
		for _, p := range c.Particles {
			want += float64(p.Charge)
		}
		wantCharge(t, inGrid("an exact cloud", c.Grid), c, want, 0)
		left, right, ok := impl.SplitCloud(c, float32(s.Intn(16)-8))
		both, merged := impl.MergeClouds(left, right)
		wantEqual(t, "SplitCloud and MergeClouds succeed", ok && merged, true)
		wantCharge(t, "a cloud that has been split and merged", both, want, 0)
		if sum := chargesOver(t, left) + chargesOver(t, right); sum != want {
			t.Errorf("the parts of a cloud have the charge %v, want %v", sum, want)
		}
		moved, ok := impl.MoveCloud(c, s.Int63n(2001)-1000, s.Int63n(2001)-1000)
		wantEqual(t, "MoveCloud succeeds", ok, true)
		wantCharge(t, "a cloud that has been moved", moved, want, 0)
	}
}

// Steps change places and speeds, but neither charges nor masses, and what is
// left at corners is the same, nearly.
func TestStepsKeepCharges(t *testing.T) {
	s := newSource()
	for range 200 {
		c := s.gentleCloud(s.Intn(49))
		total, _ := impl.TotalCharge(c)
		last, _, one := impl.RunCloud(c, 0.1, 10, 10)
		drifted, two := impl.DriftCloud(c, 0.3)
		turned, three := impl.TurnBack(c)
		step, four := impl.StepCloud(c, -0.2, 5)
		wantEqual(t, "steps succeed", one && two && three && four, true)
		for _, after := range []impl.Cloud{c, last, drifted, turned, step} {
			wantCharge(t, "a cloud behind steps", after, float64(total), 1e-4)
			wantEqual(t, "the number of particles", len(after.Particles), len(c.Particles))
			for i, p := range after.Particles {
				wantNumber(t, "Charge", p.Charge, c.Particles[i].Charge)
				wantNumber(t, "Mass", p.Mass, c.Particles[i].Mass)
			}
		}
	}
}

// Back is added at each point, and is all that there is without particles.
func TestCloudChargeOfNone(t *testing.T) {
	for _, g := range allGrids() {
		points := int(g.Wide * g.High)
		for _, back := range []float32{0, 1, -2.5, fromBits(1), math.MaxFloat32, -math.MaxFloat32} {
			got, ok := impl.CloudCharge(impl.Cloud{Grid: g, Back: back})
			wantSolved(t, inGrid("CloudCharge of none", g, back), got, ok, repeated(back, points))
		}
		got, ok := impl.CloudCharge(impl.Cloud{Grid: g, Back: minusZero()})
		wantSolved(t, inGrid("CloudCharge of none and -0", g), got, ok, repeated(float32(0), points))
	}
}

func TestCloudCharge(t *testing.T) {
	c := impl.Cloud{Grid: impl.Grid{Wide: 5, High: 4}, Back: 0.5, Magnet: 3, Particles: []impl.Particle{
		particleAt(complex(1.5, 2), 4), particleAt(complex(4.5, 3.5), -8), particleAt(complex(-4, -2), 1), particleAt(complex(2, 2), minusZero()),
	}}
	want := repeated(float32(0.5), 20)
	want[11], want[12] = 3.5, 2.5
	want[19], want[15], want[4], want[0] = -1.5, -1.5, -1.5, -1.5
	got, ok := impl.CloudCharge(c)
	wantSolved(t, "CloudCharge", got, ok, want)
	// The charges are added up before Back is added.
	c = impl.Cloud{Grid: c.Grid, Back: 0x1p24, Particles: repeated(particleAt(0, 1), 3)}
	want = repeated(float32(0x1p24), 20)
	want[0] = 0x1p24 + 4
	got, ok = impl.CloudCharge(c)
	wantSolved(t, "CloudCharge with a great Back", got, ok, want)
}

// The functions with rounds do what those of the chapters before do one by one.
func TestFieldsOfCloudsStepByStep(t *testing.T) {
	s := newSource()
	for _, rounds := range []int64{0, 1, 2, 59, 60} {
		for range 30 {
			c := s.anyCloud(s.Intn(49))
			charge, _ := impl.CloudCharge(c)
			v, solved := impl.SolvePotential(c.Grid, charge, rounds)
			wantEqual(t, "PotentialOf", wordOfNumbers(impl.PotentialOf(c, rounds)), wordOfNumbers(v, solved))
			x, y, _ := impl.FieldsOf(c.Grid, v)
			var fields, forces []complex64
			for _, p := range c.Particles {
				field, _ := impl.GatherTwo(c.Grid, x, y, p.At)
				fields, forces = append(fields, field), append(forces, impl.ScaleComplex(field, p.Charge))
			}
			wantEqual(t, "FieldsAt", wordOfComplexes(impl.FieldsAt(c, rounds)), wordOfComplexes(fields, true))
			wantEqual(t, "ForcesOf", wordOfComplexes(impl.ForcesOf(c, rounds)), wordOfComplexes(forces, true))
		}
	}
}

func TestFieldsOfNone(t *testing.T) {
	for _, g := range allGrids() {
		for _, rounds := range []int64{0, 1, 60} {
			c := impl.Cloud{Grid: g, Magnet: -1, Back: 3}
			wantEqual(t, inGrid("FieldsAt none", g), wordOfComplexes(impl.FieldsAt(c, rounds)), wordOfComplexes(nil, true))
			wantEqual(t, inGrid("ForcesOf none", g), wordOfComplexes(impl.ForcesOf(c, rounds)), wordOfComplexes(nil, true))
			v, ok := impl.PotentialOf(c, rounds)
			wantEqual(t, inGrid("PotentialOf none succeeds", g), ok, true)
			wantNear(t, inGrid("PotentialOf none", g), v, make([]float32, g.Wide*g.High), 2e-4)
		}
	}
}

func length(x complex64) float64 {
	return math.Hypot(float64(real(x)), float64(imag(x)))
}

// Where sides are even, few sweeps are enough; where one is odd, it takes more
// of them until the field of a particle is the same on all of its sides.
func TestNoParticlePushesItself(t *testing.T) {
	s := newSource()
	for _, g := range allGrids() {
		for range 6 {
			p := impl.Particle{At: complex(float32(s.Float64())*float32(g.Wide), float32(s.Float64())*float32(g.High)), Speed: 1, Charge: float32(s.Float64()*6 - 3), Mass: 2}
			rounds, most := s.Int63n(61), 1e-6
			if g.Wide%2 == 1 || g.High%2 == 1 {
				rounds, most = 60, 1e-3
			}
			force, ok := impl.SelfForce(g, p, rounds)
			wantEqual(t, inGrid("SelfForce succeeds", g), ok, true)
			wantNearby(t, inGrid("SelfForce", g, p, rounds), force, 0, most)
			other := p
			other.At += complex(0.75, 0.25)
			forces, ok := impl.ForcesOf(impl.Cloud{Grid: g, Particles: []impl.Particle{p, other}}, 60)
			wantEqual(t, inGrid("ForcesOf succeeds", g), ok, true)
			if square := float64(p.Charge * p.Charge); !(length(forces[0]) > 0.02*square) {
				t.Errorf("a particle of the charge %v is pushed by another one with %v in %v", p.Charge, forces[0], g)
			}
		}
	}
}

// SelfForce is the force of a cloud of one particle, and its numbers are those
// of no other one.
func TestSelfForceIsThatOfACloud(t *testing.T) {
	s := newSource()
	for range 500 {
		c, rounds := s.anyCloud(1), s.Int63n(20)
		c.Magnet, c.Back = 0, 0
		want := forcesWanted(c, rounds)
		wantEqual(t, "SelfForce", wordOfComplex(impl.SelfForce(c.Grid, c.Particles[0], rounds)), wordOf(true, partsOf(want...)...))
	}
	g := impl.Grid{Wide: 5, High: 7}
	for _, at := range []complex64{0, 5, complex(0, 7), complex(5, 7), complex(4.5, 6.5), complex(-0.5, -0.5), complex(1e10, -1e10), complex(math.MaxFloat32, 0)} {
		for _, charge := range []float32{1, -1, 0, minusZero()} {
			for _, rounds := range []int64{0, 1, 60} {
				p := particleAt(at, charge)
				want := forcesWanted(impl.Cloud{Grid: g, Particles: []impl.Particle{p}}, rounds)
				wantEqual(t, fmt.Sprintf("SelfForce of %v, %d rounds", p, rounds), wordOfComplex(impl.SelfForce(g, p, rounds)), wordOf(true, partsOf(want...)...))
			}
		}
	}
}

// A particle of the charge 0 leaves nothing and is pushed by nothing, but there
// is a field where it is.
func TestForcesOnParticlesWithoutCharge(t *testing.T) {
	c := impl.Cloud{Grid: impl.Grid{Wide: 8, High: 8}, Particles: []impl.Particle{particleAt(complex(2, 2), 1), particleAt(complex(4, 2), 0), particleAt(complex(0, 2), minusZero())}}
	fields, one := impl.FieldsAt(c, 60)
	forces, two := impl.ForcesOf(c, 60)
	wantEqual(t, "FieldsAt and ForcesOf succeed", one && two, true)
	if !(real(fields[1]) > 0.02) || !(real(fields[2]) < -0.02) {
		t.Errorf("the fields on both sides of a charge: got %v", fields)
	}
	wantNear(t, "the forces on both sides of a charge", partsOf(forces[1:]...), make([]float32, 4), 0)
	alone := c
	alone.Particles = c.Particles[:1]
	want, _ := impl.PotentialOf(alone, 60)
	got, ok := impl.PotentialOf(c, 60)
	wantSolved(t, "PotentialOf a cloud with particles without charge", got, ok, want)
}

// All forces together are nothing, nearly: whoever pushes is pushed back.
func TestForcesAreOpposite(t *testing.T) {
	s := newSource()
	for range 300 {
		c := s.gentleCloud(1 + s.Intn(48))
		forces, ok := impl.ForcesOf(c, 60)
		sum, size := complex64(0), 0.0
		for _, x := range forces {
			sum += x
			size += length(x)
		}
		wantEqual(t, "ForcesOf succeeds", ok, true)
		wantNearby(t, inGrid("the sum of all forces", c.Grid), sum, 0, 1e-3*(1+size))
	}
	for _, c := range []struct{ one, two, sign float32 }{{2, 3, -1}, {-2, -3, -1}, {2, -3, 1}, {-2, 3, 1}} {
		forces, ok := impl.ForcesOf(impl.Cloud{Grid: impl.Grid{Wide: 12, High: 8}, Back: 5, Particles: []impl.Particle{particleAt(complex(5, 3), c.one), particleAt(complex(7, 3), c.two)}}, 60)
		wantEqual(t, "ForcesOf succeeds", ok, true)
		wantNearby(t, "the force on the second one", forces[1], -forces[0], 1e-4)
		if !(c.sign*real(forces[0]) > 0.5) || math.Abs(float64(imag(forces[0]))) > 1e-4 {
			t.Errorf("forces between %v and %v: got %v", c.one, c.two, forces)
		}
	}
}
