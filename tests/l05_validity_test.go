package tests

import (
	"fmt"
	"math"
	"testing"

	"loop.example/g01226/impl"
)

func ordinaryCloud(g impl.Grid, n int) impl.Cloud {
	return impl.Cloud{Grid: g, Particles: repeated(ordinaryParticle(), n), Magnet: -0.5, Back: 2}
}

// invalidClouds have one thing each that a valid cloud does not have.
func invalidClouds() []impl.Cloud {
	g, p := impl.Grid{Wide: 5, High: 4}, ordinaryParticle()
	clouds := []impl.Cloud{{}, ordinaryCloud(g, 49), ordinaryCloud(g, 64), ordinaryCloud(g, 65), ordinaryCloud(g, 1000)}
	for _, n := range []int{0, 1, 3} {
		for _, bad := range badNumbers() {
			one, two := ordinaryCloud(g, n), ordinaryCloud(g, n)
			one.Magnet, two.Back = bad, bad
			clouds = append(clouds, one, two)
		}
		for _, bad := range invalidGrids() {
			clouds = append(clouds, ordinaryCloud(bad, n))
		}
	}
	for _, bad := range invalidParticles() {
		for _, list := range [][]impl.Particle{{bad}, {bad, p}, {p, p, bad}, append(repeated(p, 47), bad)} {
			clouds = append(clouds, withList(ordinaryCloud(g, 0), list))
		}
	}
	return clouds
}

func TestValidCloud(t *testing.T) {
	for _, g := range allGrids() {
		for _, n := range []int{0, 1, 2, 47, 48, 49, 64, 65} {
			wantEqual(t, inGrid("ValidCloud", g, n), impl.ValidCloud(ordinaryCloud(g, n)), n <= 48)
		}
		wantEqual(t, inGrid("ValidCloud without anything", g), impl.ValidCloud(impl.Cloud{Grid: g}), true)
	}
	for _, magnet := range edgeNumbers() {
		for _, back := range edgeNumbers() {
			c := ordinaryCloud(impl.Grid{Wide: 4, High: 16}, 1)
			c.Magnet, c.Back = magnet, back
			wantEqual(t, fmt.Sprintf("ValidCloud with %v and %v", magnet, back), impl.ValidCloud(c), true)
		}
	}
	for _, c := range invalidClouds() {
		wantEqual(t, fmt.Sprintf("ValidCloud(%.200v)", c), impl.ValidCloud(c), false)
	}
	for i := range 48 {
		c := ordinaryCloud(impl.Grid{Wide: 16, High: 4}, 48)
		c.Particles[i].Mass = 0
		wantEqual(t, fmt.Sprintf("ValidCloud with an invalid particle at %d", i), impl.ValidCloud(c), false)
	}
}

func TestSameCloudTellsEachNumber(t *testing.T) {
	for i := range 14 {
		for _, x := range oddNumbers() {
			for _, y := range oddNumbers() {
				a, b := repeated(float32(1), 14), repeated(float32(1), 14)
				a[i], b[i] = x, y
				g := impl.Grid{Wide: 4, High: 4}
				got := impl.SameCloud(cloudAs(g, a), cloudAs(g, b))
				wantEqual(t, fmt.Sprintf("SameCloud with %v and %v as number %d", x, y, i), got, sameBits(x, y))
			}
		}
	}
}

func TestSameCloudTellsGridsAndLists(t *testing.T) {
	grids := []impl.Grid{{}, {Wide: 4, High: 4}, {Wide: 4, High: 5}, {Wide: 5, High: 4}, {Wide: 16, High: 16}, {Wide: -1, High: 4}, {Wide: math.MaxInt64, High: math.MinInt64}}
	for i, g := range grids {
		for k, h := range grids {
			for _, n := range []int{0, 1, 48, 49, 100} {
				wantEqual(t, inGrid("SameCloud", g, h, n), impl.SameCloud(ordinaryCloud(g, n), ordinaryCloud(h, n)), i == k)
			}
		}
	}
	g, p, q := impl.Grid{Wide: 4, High: 4}, ordinaryParticle(), particleAt(1, 1)
	for _, c := range []struct {
		a, b []impl.Particle
		want bool
	}{
		{nil, []impl.Particle{}, true},
		{[]impl.Particle{p}, nil, false},
		{[]impl.Particle{p, q}, []impl.Particle{p, q}, true},
		{[]impl.Particle{p, q}, []impl.Particle{q, p}, false},
		{[]impl.Particle{p, q}, []impl.Particle{p}, false},
		{repeated(p, 70), repeated(p, 70), true},
		{repeated(p, 70), repeated(p, 69), false},
		{invalidParticles(), invalidParticles(), true},
	} {
		a, b := impl.Cloud{Grid: g, Particles: c.a}, impl.Cloud{Grid: g, Particles: c.b}
		wantEqual(t, fmt.Sprintf("SameCloud(%.100v, %.100v)", a, b), impl.SameCloud(a, b), c.want)
		wantEqual(t, fmt.Sprintf("SameCloud(%.100v, %.100v)", b, a), impl.SameCloud(b, a), c.want)
	}
	for _, c := range invalidClouds() {
		wantEqual(t, fmt.Sprintf("SameCloud(%.200v) with itself", c), impl.SameCloud(c, c), true)
		wantEqual(t, fmt.Sprintf("SameCloud(%.200v) with another one", c), impl.SameCloud(c, ordinaryCloud(g, 2)), false)
	}
}

// callsWithRounds are all functions that make a potential.
func callsWithRounds(c impl.Cloud, tick float32, rounds int64) []badCall {
	return append(callsOfSteps(c, tick, rounds), []badCall{
		{"PotentialOf", call1(impl.PotentialOf(c, rounds))},
		{"FieldsAt", call1(impl.FieldsAt(c, rounds))},
		{"ForcesOf", call1(impl.ForcesOf(c, rounds))},
		{"EnergyOf", call1(impl.EnergyOf(c, rounds))},
	}...)
}

func callsOfSteps(c impl.Cloud, tick float32, rounds int64) []badCall {
	return []badCall{
		{"StepCloud", call1(impl.StepCloud(c, tick, rounds))},
		{"RunCloud", call2(impl.RunCloud(c, tick, rounds, 2))},
		{"RunCloud without steps", call2(impl.RunCloud(c, tick, rounds, 0))},
	}
}

// callsWithCloud are all functions that take a cloud.
func callsWithCloud(c impl.Cloud) []badCall {
	other := c
	other.Particles = nil
	good := ordinaryCloud(impl.Grid{Wide: 5, High: 4}, 1)
	return append(callsWithRounds(c, 0.25, 2), []badCall{
		{"CloudCharge", call1(impl.CloudCharge(c))},
		{"TotalCharge", call1(impl.TotalCharge(c))},
		{"DriftCloud", call1(impl.DriftCloud(c, 0.25))},
		{"TurnBack", call1(impl.TurnBack(c))},
		{"KineticOf", call1(impl.KineticOf(c))},
		{"CloudMomentum", call1(impl.CloudMomentum(c))},
		{"MergeClouds, first", call1(impl.MergeClouds(c, good))},
		{"MergeClouds, second", call1(impl.MergeClouds(good, c))},
		{"MergeClouds, both", call1(impl.MergeClouds(c, c))},
		{"SplitCloud", call2(impl.SplitCloud(c, 1))},
		{"SplitCloud at an infinity", call2(impl.SplitCloud(c, infinity()))},
		{"MoveCloud", call1(impl.MoveCloud(c, 1, -1))},
		{"MoveCloud nowhere", call1(impl.MoveCloud(c, 0, 0))},
		{"TemperatureOf", call1(impl.TemperatureOf(c))},
	}...)
}

func TestCloudsMustBeValid(t *testing.T) {
	for _, c := range invalidClouds() {
		wantFailures(t, callsWithCloud(c))
	}
}

// All functions succeed with what is valid, so that what fails in the other tests
// does so for one reason alone.
func TestCloudsTakeValidArguments(t *testing.T) {
	for _, n := range []int{1, 2, 24} {
		wantSuccesses(t, callsWithCloud(ordinaryCloud(impl.Grid{Wide: 5, High: 4}, n)))
	}
	for _, g := range validGrids() {
		for _, n := range []int{0, 1, 48} {
			for _, rounds := range []int64{0, 1, 59, 60} {
				wantSuccesses(t, callsWithRounds(ordinaryCloud(g, n), 0.25, rounds))
			}
			for _, tick := range []float32{0, minusZero(), 0.5, -0.5, fromBits(1), 1e10, -1e10} {
				wantSuccesses(t, append(callsOfSteps(ordinaryCloud(g, n), tick, 3), badCall{"DriftCloud", call1(impl.DriftCloud(ordinaryCloud(g, n), tick))}))
			}
			for _, magnet := range edgeNumbers() {
				c := ordinaryCloud(g, n)
				c.Magnet = magnet
				wantSuccesses(t, callsOfSteps(c, 0.25, 3))
			}
		}
	}
}

func TestRoundsOfCloudsHaveALimit(t *testing.T) {
	for _, g := range validGrids() {
		for _, n := range []int{0, 1, 48} {
			for _, rounds := range []int64{-1, -60, 61, 62, 1 << 32, math.MaxInt64, math.MinInt64} {
				wantFailures(t, callsWithRounds(ordinaryCloud(g, n), 0.25, rounds))
				wantFailures(t, []badCall{{inGrid("SelfForce", g, rounds), call1(impl.SelfForce(g, ordinaryParticle(), rounds))}})
			}
		}
	}
}

func TestTicksOfCloudsMustBeFinite(t *testing.T) {
	for _, g := range validGrids() {
		for _, n := range []int{0, 1, 48} {
			for _, tick := range badNumbers() {
				for _, charge := range []float32{0, 1} {
					c := ordinaryCloud(g, n)
					for i := range c.Particles {
						c.Particles[i].Charge, c.Particles[i].Speed = charge, 0
					}
					wantFailures(t, append(callsOfSteps(c, tick, 3), badCall{"DriftCloud", call1(impl.DriftCloud(c, tick))}))
				}
			}
		}
	}
}

func TestSelfForceNeedsValidArguments(t *testing.T) {
	g := impl.Grid{Wide: 4, High: 4}
	for _, p := range invalidParticles() {
		for _, rounds := range []int64{0, 1, 60} {
			wantFailures(t, []badCall{{fmt.Sprintf("SelfForce(%v)", p), call1(impl.SelfForce(g, p, rounds))}})
		}
	}
	for _, bad := range invalidGrids() {
		wantFailures(t, []badCall{{fmt.Sprintf("SelfForce in %v", bad), call1(impl.SelfForce(bad, ordinaryParticle(), 1))}})
	}
	for _, good := range allGrids() {
		wantSuccesses(t, []badCall{{"SelfForce", call1(impl.SelfForce(good, ordinaryParticle(), 1))}})
	}
}
