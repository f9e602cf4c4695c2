package tests

import (
	"fmt"
	"math"
	"slices"
	"testing"

	"loop.example/g01226/impl"
)

// goodCollision is one with which all functions succeed.
func goodCollision(n int) collision {
	return collision{
		g: impl.Grid{Wide: 5, High: 4}, list: repeated(ordinaryParticle(), n), seed: 77, count: 3,
		share: 0.5, turns: 0.3, low: 0, high: 2, keep: 0.5, size: 0.1, wide: 2,
	}
}

// callsWithMembers are all functions that take a list.
func callsWithMembers(c collision) []badCall {
	return append(callsOfFullLists(c), []badCall{
		{"PairsIn", call1(impl.PairsIn(c.g, c.list))},
		{"MeetAll", call3(impl.MeetAll(c.g, c.list, c.seed, c.share))},
		{"MeetAll without meetings", call3(impl.MeetAll(c.g, c.list, c.seed, 0))},
		{"ReflectAll", call2(impl.ReflectAll(c.list, c.low, c.high, c.keep))},
		{"ReflectAll at far walls", call2(impl.ReflectAll(c.list, -1e30, 1e30, c.keep))},
		{"TakeOutside", call2(impl.TakeOutside(c.list, c.low, c.high))},
		{"TakeOutside at far walls", call2(impl.TakeOutside(c.list, -1e30, 1e30))},
		{"SpreadSpeeds", call2(impl.SpreadSpeeds(c.list, c.seed, c.size))},
		{"SpreadSpeeds by nothing", call2(impl.SpreadSpeeds(c.list, c.seed, 0))},
		{"DragSpeeds", call1(impl.DragSpeeds(c.list, c.keep))},
		{"DragSpeeds to a stop", call1(impl.DragSpeeds(c.list, 0))},
	}...)
}

// callsOfFullLists need at least one particle.
func callsOfFullLists(c collision) []badCall {
	return []badCall{
		{"CoolestOf", call2(impl.CoolestOf(c.list))},
		{"SpreadOf", call1(impl.SpreadOf(c.list))},
	}
}

// callsWithOne are all functions that take one particle, or two.
func callsWithOne(c collision, p impl.Particle) []badCall {
	good := ordinaryParticle()
	return slices.Concat(callsOfTwo(p, good, c.turns), callsOfTwo(good, p, c.turns), callsOfTwo(p, p, c.turns), []badCall{
		{"ReflectAt", call1(impl.ReflectAt(p, c.low, c.high, c.keep))},
		{"ReflectAt at far walls", call1(impl.ReflectAt(p, -1e30, 1e30, c.keep))},
		{"EmitParticles", call2(impl.EmitParticles(c.seed, c.count, p, c.wide))},
		{"EmitParticles, none", call2(impl.EmitParticles(c.seed, 0, p, 0))},
		{"SplitParticle", call1(impl.SplitParticle(p, c.count))},
		{"SplitParticle in one part", call1(impl.SplitParticle(p, 1))},
	})
}

// callsWithWalls are all functions that take walls, or at once what is kept.
func callsWithWalls(c collision) []badCall {
	a, _ := c.two()
	return []badCall{
		{"ReflectAt", call1(impl.ReflectAt(a, c.low, c.high, c.keep))},
		{"ReflectAll", call2(impl.ReflectAll(c.list, c.low, c.high, c.keep))},
		{"ReflectAll of none", call2(impl.ReflectAll(nil, c.low, c.high, c.keep))},
	}
}

func callsOfTaking(c collision) []badCall {
	return []badCall{
		{"TakeOutside", call2(impl.TakeOutside(c.list, c.low, c.high))},
		{"TakeOutside of none", call2(impl.TakeOutside(nil, c.low, c.high))},
	}
}

// callsWithSeed are all functions that use a seed.
func callsWithSeed(c collision) []badCall {
	a, _ := c.two()
	return []badCall{
		{"MeetAll", call3(impl.MeetAll(c.g, c.list, c.seed, c.share))},
		{"MeetAll without pairs", call3(impl.MeetAll(c.g, nil, c.seed, c.share))},
		{"SpreadSpeeds", call2(impl.SpreadSpeeds(c.list, c.seed, c.size))},
		{"SpreadSpeeds of none", call2(impl.SpreadSpeeds(nil, c.seed, c.size))},
		{"EmitParticles", call2(impl.EmitParticles(c.seed, c.count, a, c.wide))},
		{"EmitParticles, none", call2(impl.EmitParticles(c.seed, 0, a, c.wide))},
	}
}

// All functions succeed with what is valid, so that what fails in the other tests
// does so for one reason alone.
func TestCollisionsTakeValidArguments(t *testing.T) {
	for _, n := range []int{1, 2, 3, 48, 63, 64} {
		c := goodCollision(n)
		wantSuccesses(t, callsWithMembers(c))
		wantSuccesses(t, callsWithOne(c, c.list[0]))
		wantSuccesses(t, callsWithWalls(c))
		wantSuccesses(t, callsOfTaking(c))
		for _, seed := range []int64{0, 1, 2147483646, 2147483647} {
			c.seed = seed
			wantSuccesses(t, callsWithSeed(c))
		}
		for _, g := range allGrids() {
			c.g = g
			wantSuccesses(t, []badCall{{"PairsIn", call1(impl.PairsIn(g, c.list))}})
			wantSuccesses(t, callsWithSeed(c))
		}
	}
	c := goodCollision(0)
	wantSuccesses(t, callsWithMembers(c)[2:])
	wantFailures(t, callsOfFullLists(c))
}

func TestParticlesThatMeetMustBeValid(t *testing.T) {
	for _, p := range invalidParticles() {
		wantFailures(t, callsWithOne(goodCollision(2), p))
	}
}

func TestListsThatMeetMustBeValid(t *testing.T) {
	for _, list := range invalidLists() {
		c := goodCollision(0)
		c.list = list
		wantFailures(t, callsWithMembers(c))
	}
	for _, n := range []int{65, 66, 128, 1000} {
		wantFailures(t, callsWithMembers(goodCollision(n)))
	}
	for _, p := range invalidParticles() {
		for i := range 64 {
			c := goodCollision(64)
			c.list[i] = p
			wantFailures(t, callsWithMembers(c))
		}
	}
}

func TestGridsOfMeetingsMustBeValid(t *testing.T) {
	for _, g := range invalidGrids() {
		for _, n := range []int{0, 1, 2, 64} {
			list := repeated(ordinaryParticle(), n)
			wantFailures(t, []badCall{
				{fmt.Sprintf("PairsIn %v", g), call1(impl.PairsIn(g, list))},
				{fmt.Sprintf("MeetAll in %v", g), call3(impl.MeetAll(g, list, 1, 1))},
				{fmt.Sprintf("MeetAll in %v without meetings", g), call3(impl.MeetAll(g, list, 1, 0))},
			})
		}
	}
}

func TestSeedsOfCollisionsMustBeValid(t *testing.T) {
	for _, seed := range wrongSeeds() {
		for _, n := range []int{1, 2, 64} {
			c := goodCollision(n)
			c.seed = seed
			wantFailures(t, callsWithSeed(c))
		}
	}
}

func TestTurnsMustBeFinite(t *testing.T) {
	a, b := met(1, complex(2, 3)), met(2, 5)
	for _, turns := range badNumbers() {
		wantFailures(t, []badCall{
			{"MeetSpeeds", call2(impl.MeetSpeeds(a, b, turns))},
			{"MeetSpeeds of equal ones", call2(impl.MeetSpeeds(a, a, turns))},
			{"MeetSpeeds of those at rest", call2(impl.MeetSpeeds(met(1, 0), met(1, 0), turns))},
		})
	}
	for _, turns := range edgeNumbers() {
		wantSuccesses(t, []badCall{{"MeetSpeeds", call2(impl.MeetSpeeds(a, b, turns))}})
	}
}

func TestWallsMustStandInOrder(t *testing.T) {
	huge := float32(math.MaxFloat32)
	for _, w := range [][2]float32{
		{0, 0}, {1, 1}, {-1, -1}, {huge, huge}, {minusZero(), 0}, {0, minusZero()},
		{1, 0}, {0, -1}, {above(1), 1}, {huge, -huge}, {fromBits(1), 0}, {0, -fromBits(1)},
	} {
		c := goodCollision(3)
		c.low, c.high = w[0], w[1]
		wantFailures(t, callsWithWalls(c))
		wantFailures(t, callsOfTaking(c))
	}
	for _, w := range [][2]float32{
		{1, above(1)}, {-1, 0}, {minusZero(), fromBits(1)}, {-fromBits(1), 0}, {-fromBits(1), minusZero()}, {-huge, huge}, {-huge, below(huge) - huge},
	} {
		c := goodCollision(3)
		c.low, c.high = w[0], w[1]
		wantSuccesses(t, callsWithWalls(c))
		wantSuccesses(t, callsOfTaking(c))
	}
}

func TestWallsMustBeFinite(t *testing.T) {
	for _, bad := range badNumbers() {
		for _, w := range [][2]float32{{bad, 1}, {0, bad}, {bad, bad}, {-infinity(), infinity()}, {-infinity(), bad}, {bad, infinity()}} {
			c := goodCollision(3)
			c.low, c.high = w[0], w[1]
			wantFailures(t, callsWithWalls(c))
			wantFailures(t, callsOfTaking(c))
		}
	}
}

// What is kept must be finite, also where nobody is thrown back.
func TestKeepsMustBeFinite(t *testing.T) {
	for _, bad := range badNumbers() {
		for _, n := range []int{1, 2, 64} {
			for _, speed := range []complex64{0, 1, complex(minusZero(), 5)} {
				for _, high := range []float32{1, 3} {
					c := goodCollision(n)
					for i := range c.list {
						c.list[i].Speed = speed
					}
					c.keep, c.high = bad, high
					wantFailures(t, callsWithWalls(c))
					wantFailures(t, []badCall{{"DragSpeeds", call1(impl.DragSpeeds(c.list, bad))}, {"DragSpeeds of none", call1(impl.DragSpeeds(nil, bad))}})
				}
			}
		}
	}
	for _, keep := range edgeNumbers() {
		c := goodCollision(2)
		for i := range c.list {
			c.list[i].Speed = complex(-1, 0.5)
		}
		c.keep, c.high = keep, 1
		wantSuccesses(t, callsWithWalls(c))
		wantSuccesses(t, []badCall{{"DragSpeeds", call1(impl.DragSpeeds(c.list, keep))}})
	}
}

func TestSizesMustBeFinite(t *testing.T) {
	for _, bad := range badNumbers() {
		for _, n := range []int{0, 1, 64} {
			list := repeated(ordinaryParticle(), n)
			for _, seed := range []int64{0, 2147483647} {
				wantFailures(t, []badCall{
					{"SpreadSpeeds", call2(impl.SpreadSpeeds(list, seed, bad))},
					{"EmitParticles", call2(impl.EmitParticles(seed, int64(n), ordinaryParticle(), bad))},
				})
			}
		}
	}
	for _, size := range edgeNumbers() {
		wantSuccesses(t, []badCall{{"EmitParticles", call2(impl.EmitParticles(3, 64, ordinaryParticle(), size))}})
		if half := size / 2; finite(half) {
			wantSuccesses(t, []badCall{{"SpreadSpeeds", call2(impl.SpreadSpeeds(repeated(ordinaryParticle(), 64), 3, half))}})
		}
	}
}
