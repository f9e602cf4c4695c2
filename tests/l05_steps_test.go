package tests

import (
	"fmt"
	"math"
	"slices"
	"testing"

	"loop.example/g01226/impl"
)

// StepCloud pushes all particles with the fields of the cloud before the step,
// and then moves them with the new speeds.
func TestStepCloudStepByStep(t *testing.T) {
	s := newSource()
	for range 300 {
		c, tick, rounds := s.gentleCloud(s.Intn(49)), float32(s.Float64()-0.5), s.Int63n(20)
		fields, _ := impl.FieldsAt(c, rounds)
		want := c
		want.Particles = slices.Clone(c.Particles)
		for i, p := range c.Particles {
			speed, one := impl.PushSpeed(p, fields[i], c.Magnet, tick)
			at, two := impl.DriftPlace(c.Grid, p.At, speed, tick)
			wantEqual(t, "PushSpeed and DriftPlace succeed", one && two, true)
			want.Particles[i].Speed, want.Particles[i].At = speed, at
		}
		got, ok := impl.StepCloud(c, tick, rounds)
		wantCloud(t, inGrid("StepCloud", c.Grid, tick, rounds), got, ok, want)
	}
}

// A lone particle without charge goes straight on, with Magnet or without.
func TestStepsWithoutCharge(t *testing.T) {
	for _, g := range allGrids() {
		c := impl.Cloud{Grid: g, Magnet: 4, Back: 1, Particles: []impl.Particle{{At: complex(0.5, 0.25), Speed: complex(1, -0.5), Mass: 3}}}
		want := c
		want.Particles = []impl.Particle{{At: complex(1.5, float32(g.High)-0.25), Speed: complex(1, -0.5), Mass: 3}}
		got, ok := impl.StepCloud(c, 1, 2)
		wantCloud(t, inGrid("StepCloud", g), got, ok, want)
		want.Particles = []impl.Particle{{At: complex(0.5, placeY(0.25-float32(g.Wide)/2, float32(g.High))), Speed: complex(1, -0.5), Mass: 3}}
		got, energies, ok := impl.RunCloud(c, 1, 2, g.Wide)
		wantCloud(t, inGrid("RunCloud", g), got, ok, want)
		wantField(t, inGrid("RunCloud, the energies", g), energies, repeated(float32(1.875), int(g.Wide)))
	}
}

// A tick of 0, with either sign, changes no speed, and only wraps places.
func TestTicksOfZero(t *testing.T) {
	s := newSource()
	for _, tick := range []float32{0, minusZero()} {
		for range 100 {
			c := s.gentleCloud(s.Intn(49))
			want := c
			want.Particles = slices.Clone(c.Particles)
			for i, p := range c.Particles {
				want.Particles[i].At = placeWanted(c.Grid, p.At)
			}
			got, ok := impl.DriftCloud(c, tick)
			wantCloud(t, "DriftCloud in no time", got, ok, want)
			got, ok = impl.StepCloud(c, tick, 3)
			wantCloud(t, "StepCloud in no time", got, ok, want)
			got, _, ok = impl.RunCloud(c, tick, 3, 20)
			wantCloud(t, "RunCloud in no time", got, ok, want)
		}
	}
}

// Equal charges drive each other apart, and opposite ones come nearer.
func TestStepsGoWhereForcesPush(t *testing.T) {
	for _, c := range []struct {
		charge float32
		apart  bool
	}{{1, true}, {-1, false}} {
		cloud := impl.Cloud{Grid: impl.Grid{Wide: 16, High: 16}, Particles: []impl.Particle{particleAt(complex(6, 8), 1), particleAt(complex(9, 8), c.charge)}}
		last, _, ok := impl.RunCloud(cloud, 0.5, 60, 4)
		wantEqual(t, "RunCloud succeeds", ok, true)
		way := real(last.Particles[1].At) - real(last.Particles[0].At)
		wantEqual(t, fmt.Sprintf("whether charges are driven apart, at %v behind the steps", way), way > 3, c.apart)
		wantNear(t, "the heights", []float32{imag(last.Particles[0].At), imag(last.Particles[1].At)}, []float32{8, 8}, 1e-5)
	}
}

// RunCloud makes StepCloud as often as it is told, up to its limit.
func TestRunCloudStepByStep(t *testing.T) {
	s := newSource()
	for _, n := range []int{0, 1, 2, 7, 48} {
		c := s.gentleCloud(n)
		now, energies := c, []float32{}
		for steps := range int64(21) {
			last, got, ok := impl.RunCloud(c, 0.2, 6, steps)
			wantCloud(t, fmt.Sprintf("RunCloud, %d steps", steps), last, ok, now)
			wantField(t, fmt.Sprintf("RunCloud, the energies of %d steps", steps), got, energies)
			now, _ = impl.StepCloud(now, 0.2, 6)
			kinetic, _ := impl.KineticOf(now)
			energies = append(energies, kinetic)
		}
		for _, steps := range []int64{-1, -20, 21, 22, 1 << 32, math.MaxInt64, math.MinInt64} {
			wantFailures(t, []badCall{{"RunCloud beyond its limit", call2(impl.RunCloud(c, 0.2, 6, steps))}})
		}
	}
}

// Without steps, places stay where they are, also beyond the edges, and what
// would fail in a step does not matter.
func TestNoStepsChangeNothing(t *testing.T) {
	c := cloudIn(impl.Particle{At: complex(-9, 4), Speed: complex(minusZero(), 1e38), Charge: 1e30, Mass: 1e-30}, ordinaryParticle())
	last, energies, ok := impl.RunCloud(c, 1e38, 60, 0)
	wantCloud(t, "RunCloud without steps", last, ok, c)
	wantEqual(t, "the number of energies", len(energies), 0)
	wantFailures(t, []badCall{{"RunCloud with a step", call2(impl.RunCloud(c, 1e38, 60, 1))}, {"StepCloud", call1(impl.StepCloud(c, 1e38, 60))}})
}

// One particle that can't take a step makes the cloud fail, wherever it stands.
func TestCloudsFailWithOneParticle(t *testing.T) {
	huge := float32(math.MaxFloat32)
	for i := range 5 {
		list := repeated(ordinaryParticle(), 5)
		for _, bad := range []impl.Particle{
			{At: complex(huge, 0), Speed: complex(huge, 0), Mass: 1},
			{At: complex(0, -huge), Speed: complex(0, -huge), Mass: 1},
			{At: 1, Speed: complex(huge, huge), Mass: 1},
		} {
			list[i] = bad
			c := cloudIn(list...)
			wantFailures(t, []badCall{
				{"DriftCloud", call1(impl.DriftCloud(c, 2))},
				{"StepCloud", call1(impl.StepCloud(c, 2, 1))},
				{"RunCloud", call2(impl.RunCloud(c, 2, 1, 3))},
			})
			turned, ok := impl.TurnBack(c)
			wantEqual(t, "TurnBack succeeds", ok && len(turned.Particles) == 5, true)
		}
		// A pull that is not finite fails even in no time and without a field.
		list[i] = impl.Particle{At: 1, Charge: 1e30, Mass: 1e-30}
		c := cloudIn(list...)
		wantFailures(t, []badCall{
			{"StepCloud", call1(impl.StepCloud(c, 0, 0))},
			{"RunCloud", call2(impl.RunCloud(c, 0, 0, 1))},
		})
		drifted, ok := impl.DriftCloud(c, 1)
		wantEqual(t, "DriftCloud succeeds", ok && len(drifted.Particles) == 5, true)
	}
}

// Energies may not be finite.
func TestEnergiesOfFastParticles(t *testing.T) {
	c := impl.Cloud{Grid: impl.Grid{Wide: 4, High: 4}, Particles: []impl.Particle{{At: math.MaxFloat32, Speed: 0x1p102, Mass: 1}}}
	for _, steps := range []int64{0, 1, 2, 20} {
		_, energies, ok := impl.RunCloud(c, 1, 1, steps)
		wantEqual(t, "RunCloud succeeds", ok, true)
		wantField(t, "the energies", energies, repeated(infinity(), int(steps)))
	}
}

// A light particle gets faster with each step, and always comes around to the
// place 0, as great numbers have no places behind the point; a later step fails.
func TestRunsThatFailLater(t *testing.T) {
	light, heavy := impl.Particle{Charge: 1, Mass: 0x1p-107}, impl.Particle{At: 1, Charge: 0x1p20, Mass: 0x1p100}
	c := impl.Cloud{Grid: impl.Grid{Wide: 4, High: 4}, Particles: []impl.Particle{light, heavy}}
	first, ok := impl.StepCloud(c, 1, 20)
	wantEqual(t, "StepCloud succeeds", ok, true)
	lasts := int64(math.MaxFloat32 / length(first.Particles[0].Speed))
	if lasts < 2 || lasts > 18 {
		t.Fatalf("the speed lasts for %d steps", lasts)
	}
	for steps := int64(0); steps <= lasts; steps++ {
		last, energies, ok := impl.RunCloud(c, 1, 20, steps)
		wantEqual(t, "RunCloud succeeds", ok, true)
		wantEqual(t, "the number of energies", int64(len(energies)), steps)
		wantComplex(t, "the place", last.Particles[0].At, 0)
	}
	for steps := lasts + 1; steps <= 20; steps++ {
		wantFailures(t, []badCall{{fmt.Sprintf("RunCloud with %d steps", steps), call2(impl.RunCloud(c, 1, 20, steps))}})
	}
}

func TestDriftCloud(t *testing.T) {
	c := cloudIn(
		impl.Particle{At: complex(1, 1), Speed: complex(0.5, -0.25), Charge: 100, Mass: 1},
		impl.Particle{At: complex(4.5, 0.5), Speed: complex(2, -2), Charge: -100, Mass: 2},
		impl.Particle{At: complex(-5, 8), Speed: complex(minusZero(), 0), Charge: 0, Mass: 3},
	)
	for _, w := range []struct {
		tick   float32
		places [3]complex64
	}{
		{1, [3]complex64{complex(1.5, 0.75), complex(1.5, 2.5), 0}},
		{-1, [3]complex64{complex(0.5, 1.25), complex(2.5, 2.5), 0}},
		{0, [3]complex64{complex(1, 1), complex(4.5, 0.5), 0}},
		{minusZero(), [3]complex64{complex(1, 1), complex(4.5, 0.5), 0}},
		{10, [3]complex64{complex(1, 2.5), complex(4.5, 0.5), 0}},
		{0x1p-30, [3]complex64{complex(1, 1), complex(4.5, 0.5), 0}},
	} {
		want := cloudIn(slices.Clone(c.Particles)...)
		for i, place := range w.places {
			want.Particles[i].At = place
		}
		got, ok := impl.DriftCloud(c, w.tick)
		wantCloud(t, fmt.Sprintf("DriftCloud(%v)", w.tick), got, ok, want)
	}
}

func TestTurnBack(t *testing.T) {
	s := newSource()
	for range 500 {
		c := s.anyCloud(s.Intn(49))
		want, _ := backWantedOfCloud(c)
		turned, ok := impl.TurnBack(c)
		wantCloud(t, "TurnBack", turned, ok, want)
		again, ok := impl.TurnBack(turned)
		wantCloud(t, "TurnBack twice", again, ok, c)
	}
	for _, magnet := range []float32{0, minusZero(), 1, -1, math.MaxFloat32, fromBits(1)} {
		c := impl.Cloud{Grid: impl.Grid{Wide: 4, High: 4}, Magnet: magnet, Back: minusZero(), Particles: []impl.Particle{
			{At: complex(-3, 77), Speed: complex(0, minusZero()), Charge: minusZero(), Mass: 1}, {Speed: complex(-1, math.MaxFloat32), Mass: 1},
		}}
		want := c
		want.Magnet = -magnet
		want.Particles = slices.Clone(c.Particles)
		want.Particles[0].Speed, want.Particles[1].Speed = complex(minusZero(), 0), complex(1, -math.MaxFloat32)
		got, ok := impl.TurnBack(c)
		wantCloud(t, fmt.Sprintf("TurnBack of the magnet %v", magnet), got, ok, want)
	}
}

// Behind steps with the opposite speeds, particles without charge come back.
func TestNeutralCloudsComeBack(t *testing.T) {
	s := newSource()
	for range 100 {
		c := s.gentleCloud(s.Intn(49))
		for i := range c.Particles {
			c.Particles[i].Charge = 0
		}
		there, _, one := impl.RunCloud(c, 0.3, 5, 15)
		turned, two := impl.TurnBack(there)
		back, _, three := impl.RunCloud(turned, 0.3, 5, 15)
		again, four := impl.TurnBack(back)
		wantEqual(t, "RunCloud and TurnBack succeed", one && two && three && four, true)
		for i, p := range again.Particles {
			wantSamePlace(t, "steps there and back", c.Grid, p, c.Particles[i], 1e-4)
		}
		wantNumber(t, "Magnet behind two turns", again.Magnet, c.Magnet)
	}
}

// Two streams with a small speed difference are pushed by each other, and their
// energy as a whole stays, nearly.
func TestEnergyStaysNearly(t *testing.T) {
	streams, one := impl.TwoStreams(impl.Grid{Wide: 16, High: 16}, 24, 0.5)
	before, two := impl.EnergyOf(streams, 60)
	last, _, three := impl.RunCloud(streams, 0.05, 60, 20)
	after, four := impl.EnergyOf(last, 60)
	wantEqual(t, "TwoStreams, EnergyOf and RunCloud succeed", one && two && three && four, true)
	wantNear(t, "the energy", []float32{after}, []float32{before}, 0.05*float64(before))
}
