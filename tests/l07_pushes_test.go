package tests

import (
	"fmt"
	"math"
	"slices"
	"testing"

	"loop.example/g01226/impl"
)

// wantPushed tells what a cloud becomes that any number of workers pushes.
func wantPushed(t *testing.T, what string, c impl.Cloud, fields []complex64, tick float32, want impl.Cloud) {
	t.Helper()
	for workers := int64(1); workers <= 8; workers++ {
		got, ok := impl.PushShared(c, fields, tick, workers)
		wantCloud(t, fmt.Sprintf("PushShared of %s by %d", what, workers), got, ok, want)
	}
}

// callsOfPushes are those of any number of workers.
func callsOfPushes(c impl.Cloud, fields []complex64, tick float32) []badCall {
	var calls []badCall
	for workers := int64(1); workers <= 8; workers++ {
		what := fmt.Sprintf("PushShared of %d particles with %d fields and the tick %v by %d", len(c.Particles), len(fields), tick, workers)
		calls = append(calls, badCall{what, call1(impl.PushShared(c, fields, tick, workers))})
	}
	return calls
}

func TestPushShared(t *testing.T) {
	c := cloudIn(pulled(1, 0), pulled(-1, 0), pulled(2, complex(1, -3)), pulled(0, complex(5, 6)))
	c.Magnet = 0
	want := cloudIn(pulled(1, 1), pulled(-1, complex(0, 1.5)), pulled(2, complex(1, 1)), pulled(0, complex(5, 6)))
	want.Magnet = 0
	wantPushed(t, "a cloud", c, []complex64{2, complex(0, -3), complex(0, 4), complex(1e30, -1e30)}, 0.5, want)
	// Without fields, the magnet alone turns: by -i with the pull 1.
	c.Magnet = 2
	want = cloudIn(pulled(1, 0), pulled(-1, 0), pulled(2, complex(-1.4, 2.8)), pulled(0, complex(5, 6)))
	want.Magnet = 2
	want.Particles[2].Speed = speedWanted(c.Particles[2], 0, 2, 1)
	wantPushed(t, "a cloud in a magnet", c, make([]complex64, 4), 1, want)
	one := cloudIn(pulled(1, complex(3, 4)))
	one.Magnet = 2
	turned := withList(one, []impl.Particle{pulled(1, complex(4, -3))})
	wantPushed(t, "one particle in a magnet", one, []complex64{0}, 1, turned)
}

// A tick of zero changes nothing, nor do no particles.
func TestPushesThatChangeNothing(t *testing.T) {
	s := newSource()
	for _, tick := range []float32{0, minusZero()} {
		for n := range 49 {
			c := s.gentleCloud(n)
			wantPushed(t, "a cloud in no time", c, make([]complex64, n), tick, c)
		}
	}
	for _, g := range allGrids() {
		for _, tick := range []float32{0, 1, -1e30, math.MaxFloat32} {
			c := impl.Cloud{Grid: g, Magnet: -3, Back: math.MaxFloat32}
			wantPushed(t, "no particles", c, nil, tick, c)
			wantPushed(t, "no particles", c, []complex64{}, tick, c)
		}
	}
}

// Each particle has the speed that PushSpeed tells, and stays what it is and
// where, also far outside of the grid.
func TestPushSharedStepByStep(t *testing.T) {
	s := newSource()
	for n := range 49 {
		for range 10 {
			c, fields, tick := s.crowdedCloud(s.grid(), n), fieldsOfNumbers(s.numbers(2*n)), s.number()
			want := withList(c, slices.Clone(c.Particles))
			for i, p := range c.Particles {
				if i%3 == 0 {
					c.Particles[i].At = complex(s.finiteBits(), s.finiteBits())
					want.Particles[i].At = c.Particles[i].At
				}
				want.Particles[i].Speed, _ = impl.PushSpeed(p, fields[i], c.Magnet, tick)
			}
			wantPushed(t, "a cloud", c, fields, tick, want)
		}
	}
}

// With the fields of the cloud itself, a push and a drift make a step.
func TestPushSharedIsPartOfAStep(t *testing.T) {
	s := newSource()
	for range 100 {
		c, tick, rounds := s.gentleCloud(s.Intn(49)), float32(s.Float64()), s.Int63n(10)
		fields, one := impl.FieldsAt(c, rounds)
		pushed, two := impl.PushShared(c, fields, tick, 1+s.Int63n(8))
		want, three := impl.StepCloud(c, tick, rounds)
		wantEqual(t, "FieldsAt, PushShared and StepCloud succeed", one && two && three, true)
		got, ok := impl.DriftCloud(pushed, tick)
		wantCloud(t, "PushShared and DriftCloud", got, ok, want)
	}
}

func TestPushesNeedAsManyFieldsAsParticles(t *testing.T) {
	for _, n := range []int{0, 1, 2, 7, 8, 9, 47, 48} {
		c := ordinaryCloud(impl.Grid{Wide: 5, High: 4}, n)
		wantSuccesses(t, callsOfPushes(c, make([]complex64, n), 0.5))
		for _, other := range []int{0, 1, n - 1, n + 1, 2 * n, 48, 49, 1000} {
			if other >= 0 && other != n {
				wantFailures(t, callsOfPushes(c, make([]complex64, other), 0.5))
			}
		}
	}
}

// A field that is not finite makes all fail, wherever it stands, even where there
// is no time or no charge.
func TestFieldsOfSharedPushesMustBeFinite(t *testing.T) {
	for i := range 48 {
		for _, bad := range badPlaces() {
			c, fields := ordinaryCloud(impl.Grid{Wide: 5, High: 4}, 48), repeated(complex64(1), 48)
			fields[i] = bad
			workers := int64(i%8) + 1
			for _, tick := range []float32{0.5, 0} {
				wantFailures(t, []badCall{{fmt.Sprintf("PushShared with %v at %d", bad, i), call1(impl.PushShared(c, fields, tick, workers))}})
				c.Particles[i].Charge = 0
			}
		}
	}
	wantFailures(t, callsOfPushes(cloudIn(pulled(1, 1)), []complex64{complex(0, infinity())}, 1))
}

func TestTicksOfPushesMustBeFinite(t *testing.T) {
	for _, tick := range badNumbers() {
		for _, n := range []int{0, 1, 48} {
			c := ordinaryCloud(impl.Grid{Wide: 5, High: 4}, n)
			wantFailures(t, callsOfPushes(c, make([]complex64, n), tick))
			for i := range c.Particles {
				c.Particles[i].Charge, c.Particles[i].Speed = 0, 0
			}
			wantFailures(t, callsOfPushes(c, make([]complex64, n), tick))
		}
	}
	for _, tick := range edgeNumbers() {
		c := ordinaryCloud(impl.Grid{Wide: 5, High: 4}, 3)
		c.Magnet = 0
		wantSuccesses(t, callsOfPushes(c, make([]complex64, 3), tick))
	}
}

func TestPushesNeedWorkers(t *testing.T) {
	for _, n := range []int{0, 1, 48} {
		c := ordinaryCloud(impl.Grid{Wide: 5, High: 4}, n)
		for _, workers := range wrongWorkers() {
			wantFailures(t, []badCall{{fmt.Sprintf("PushShared by %d", workers), call1(impl.PushShared(c, make([]complex64, n), 0.5, workers))}})
		}
		wantSuccesses(t, callsOfPushes(c, make([]complex64, n), 0.5))
	}
}

// Speeds so great that the cloud is not valid any more make all fail, and so
// does a pull that is not finite, whoever of the workers has that particle.
func TestPushedSpeedsMustBeFinite(t *testing.T) {
	const huge = math.MaxFloat32
	g := impl.Grid{Wide: 5, High: 4}
	for _, b := range []struct {
		p     impl.Particle
		field complex64
		tick  float32
		fails bool
	}{
		{pulled(1, huge), complex(huge, 0), 2, true},
		{pulled(1, complex(0, -huge)), complex(0, -huge), 2, true},
		{pulled(1, 0), huge, 4, true},
		{pulled(4, 0), complex(0, huge), 1, true},
		{impl.Particle{Charge: 1e30, Mass: 1e-30}, 0, 0, true},
		{pulled(-1, huge), complex(huge, 0), 1, false},
		{pulled(1, huge), complex(0x1p100, 0), 1, false},
		{pulled(1, 0), huge, 1, false},
	} {
		for i := range 48 {
			c, fields := ordinaryCloud(g, 48), make([]complex64, 48)
			c.Magnet, c.Particles[i], fields[i] = 0, b.p, b.field
			call := badCall{fmt.Sprintf("PushShared with %v at %d", b, i), call1(impl.PushShared(c, fields, b.tick, int64(i%8)+1))}
			if b.fails {
				wantFailures(t, []badCall{call})
			} else {
				wantSuccesses(t, []badCall{call})
			}
		}
	}
	c := ordinaryCloud(g, 2)
	c.Magnet = huge
	wantFailures(t, callsOfPushes(c, make([]complex64, 2), huge))
}

// Many runs of the same call bring the same bits, whoever of the workers is first.
func TestPushesOfManyRuns(t *testing.T) {
	s := newSource()
	c, fields := s.gentleCloud(48), fieldsOfNumbers(s.numbers(96))
	want, ok := impl.PushShared(c, fields, 0.3, 1)
	wantEqual(t, "PushShared succeeds", ok, true)
	for run := range 500 {
		got, ok := impl.PushShared(c, fields, 0.3, int64(run%8)+1)
		if !ok || !impl.SameCloud(got, want) {
			t.Fatalf("run %d brings other bits", run)
		}
	}
}
