package tests

import (
	"fmt"
	"slices"
	"strings"
	"testing"

	"loop.example/g01226/impl"
)

func bitsOfCloud(c impl.Cloud, ok bool) string {
	return fmt.Sprint(c.Grid, bitsOfList(numbersOfCloud(c)), ok)
}

func bitsOfTwoClouds(a, b impl.Cloud, ok bool) string {
	return bitsOfCloud(a, ok) + bitsOfCloud(b, ok)
}

func bitsOfRun(c impl.Cloud, energies []float32, ok bool) string {
	return bitsOfCloud(c, ok) + bitsOfList(energies)
}

// cloudArguments are all arguments of functions with clouds.
type cloudArguments struct {
	a, b                impl.Cloud
	tick                float32
	rounds, steps, x, y int64
}

// cloudCalls tell what all functions of chapter 5 return.
func cloudCalls(c cloudArguments) string {
	var p impl.Particle
	if len(c.a.Particles) > 0 {
		p = c.a.Particles[0]
	}
	return strings.Join([]string{
		fmt.Sprint(impl.ValidCloud(c.a), impl.SameCloud(c.a, c.b), impl.SameCloud(c.b, c.a)),
		bitsOfResult(impl.CloudCharge(c.a)), bitsOfNumber(impl.TotalCharge(c.a)), bitsOfResult(impl.PotentialOf(c.a, c.rounds)),
		bitsOfPlaces(impl.FieldsAt(c.a, c.rounds)), bitsOfPlaces(impl.ForcesOf(c.a, c.rounds)), bitsOfParts(impl.SelfForce(c.a.Grid, p, c.rounds)),
		bitsOfCloud(impl.StepCloud(c.a, c.tick, c.rounds)), bitsOfRun(impl.RunCloud(c.a, c.tick, c.rounds, c.steps)),
		bitsOfCloud(impl.DriftCloud(c.a, c.tick)), bitsOfCloud(impl.TurnBack(c.a)), bitsOfNumber(impl.KineticOf(c.a)),
		bitsOfParts(impl.CloudMomentum(c.a)), bitsOfNumber(impl.EnergyOf(c.a, c.rounds)), bitsOfCloud(impl.MergeClouds(c.a, c.b)),
		bitsOfTwoClouds(impl.SplitCloud(c.a, c.tick)), bitsOfCloud(impl.MoveCloud(c.a, c.x, c.y)),
		bitsOfCloud(impl.TwoStreams(c.a.Grid, c.x, c.tick)), bitsOfNumber(impl.TemperatureOf(c.a)),
	}, ";")
}

// sameCloudsAgain makes copies of what has memory.
func sameCloudsAgain(c cloudArguments) cloudArguments {
	c.a.Particles, c.b.Particles = slices.Clone(c.a.Particles), slices.Clone(c.b.Particles)
	return c
}

// oddClouds are valid and invalid ones of many sizes.
func oddClouds() []impl.Cloud {
	s := newSource()
	clouds := invalidClouds()
	for _, g := range oddGrids() {
		clouds = append(clouds, ordinaryCloud(g, 0), impl.Cloud{Grid: g, Particles: []impl.Particle{}})
	}
	for n := range 50 {
		clouds = append(clouds, s.anyCloud(n), s.anyCloud(n%5))
	}
	for i, list := range oddLists() {
		clouds = append(clouds, withList(ordinaryCloud(validGrids()[i%6], 0), list))
	}
	return clouds
}

// Every function returns the same for the same numbers, valid or not, in any
// order of calls, and leaves all that it gets as it is.
func TestCloudsStayUnchanged(t *testing.T) {
	filler := impl.Particle{At: 77, Speed: 78, Charge: 79, Mass: 80}
	clouds, numbers := oddClouds(), oddNumbers()
	var all []cloudArguments
	var first []string
	var wholes, kept [][]impl.Particle
	for i, a := range clouds {
		b := clouds[(i*7+3)%len(clouds)]
		if i%2 == 0 {
			b.Grid = a.Grid
		}
		var wholeA, wholeB []impl.Particle
		a.Particles, wholeA = withRoom(a.Particles, filler)
		b.Particles, wholeB = withRoom(b.Particles, filler)
		c := cloudArguments{a: a, b: b, tick: numbers[i%len(numbers)], rounds: int64(i%64) - 2, steps: int64(i%23) - 1, x: int64(i%2003) - 1001, y: int64(i%30) - 3}
		if i%3 == 0 {
			c.tick, c.rounds, c.steps = 0.125, int64(i%5), int64(i%4)
		}
		all, wholes = append(all, c), append(wholes, wholeA, wholeB)
		kept = append(kept, slices.Clone(wholeA), slices.Clone(wholeB))
		first = append(first, cloudCalls(c))
	}
	for i := len(all) - 1; i >= 0; i-- {
		wantEqual(t, fmt.Sprintf("a second call with %.300v", all[i]), cloudCalls(sameCloudsAgain(all[i])), first[i])
	}
	for i := range wholes {
		if !equalParticleBits(wholes[i], kept[i]) {
			t.Fatalf("a list of particles has been changed: %.300v", kept[i])
		}
	}
}

// One list may be that of both clouds, and a part of a longer one.
func TestCloudsMayShareArguments(t *testing.T) {
	s := newSource()
	for range 100 {
		whole := s.gentleCloud(48)
		kept := slices.Clone(whole.Particles)
		c := cloudArguments{a: withList(whole, whole.Particles[3:20]), b: withList(whole, whole.Particles[3:23]), tick: 0.5, rounds: 3, steps: 2, x: 3, y: -2}
		wantEqual(t, "calls with one list twice", cloudCalls(c), cloudCalls(sameCloudsAgain(c)))
		if !equalParticleBits(whole.Particles, kept) {
			t.Fatal("a list of particles has been changed")
		}
	}
}

// resultsOfClouds are all lists of numbers and of particles that functions
// return, also those of calls that change nothing.
func resultsOfClouds(c cloudArguments) (numbers [][]float32, places [][]complex64, lists [][]impl.Particle) {
	keepNumbers := func(list []float32, ok bool) { numbers = append(numbers, list) }
	keepPlaces := func(list []complex64, ok bool) { places = append(places, list) }
	keepCloud := func(moved impl.Cloud, ok bool) { lists = append(lists, moved.Particles) }
	keepNumbers(impl.CloudCharge(c.a))
	keepCloud(impl.TurnBack(c.a))
	keepCloud(impl.MergeClouds(c.a, c.b))
	keepCloud(impl.MergeClouds(c.a, withList(c.a, nil)))
	keepCloud(impl.MergeClouds(withList(c.a, nil), c.a))
	keepCloud(impl.MoveCloud(c.a, 0, 0))
	keepCloud(impl.MoveCloud(c.a, c.x, c.y))
	keepCloud(impl.TwoStreams(c.a.Grid, 3, 1))
	for _, limit := range []float32{2, infinity(), -infinity(), notANumber()} {
		left, right, _ := impl.SplitCloud(c.a, limit)
		lists = append(lists, left.Particles, right.Particles)
	}
	for n := range int64(3) {
		keepNumbers(impl.PotentialOf(c.a, n))
		keepPlaces(impl.FieldsAt(c.a, n))
		keepPlaces(impl.ForcesOf(c.a, n))
		keepCloud(impl.StepCloud(c.a, float32(n), n))
		keepCloud(impl.DriftCloud(c.a, float32(n)))
		last, energies, _ := impl.RunCloud(c.a, 0.5, 1, n)
		numbers, lists = append(numbers, energies), append(lists, last.Particles)
	}
	return numbers, places, lists
}

// Results that have been overwritten, also behind their ends, change neither
// arguments nor each other nor later results.
func TestResultsOfCloudsAreNew(t *testing.T) {
	s := newSource()
	c := cloudArguments{a: s.gentleCloud(20), b: s.gentleCloud(5), tick: 0.25, rounds: 2, steps: 3, x: 5, y: -6}
	c.b.Grid = c.a.Grid
	kept := sameCloudsAgain(c)
	before := cloudCalls(c)
	numbers, places, lists := resultsOfClouds(c)
	for i := range lists {
		others := slices.Concat(lists[i+1:]...)
		keptOthers := slices.Clone(others)
		spoil(lists[i], impl.Particle{})
		if !equalParticleBits(slices.Concat(lists[i+1:]...), keptOthers) {
			t.Errorf("result %d shares memory with another one", i)
		}
	}
	for _, list := range numbers {
		spoil(list, 9)
	}
	for _, list := range places {
		spoil(list, 9)
	}
	if !equalParticleBits(c.a.Particles, kept.a.Particles) || !equalParticleBits(c.b.Particles, kept.b.Particles) {
		t.Error("a result shares memory with an argument")
	}
	wantEqual(t, "calls after results have been overwritten", cloudCalls(c), before)
}

// Nil and empty lists are the same value.
func TestNilAndEmptyCloudsAreEqual(t *testing.T) {
	for _, g := range oddGrids() {
		none := cloudArguments{a: ordinaryCloud(g, 0), b: ordinaryCloud(g, 2), tick: 0.5, rounds: 2, steps: 2, x: 1, y: 1}
		empty := none
		none.a.Particles, empty.a.Particles = nil, []impl.Particle{}
		wantEqual(t, inGrid("calls without particles", g), cloudCalls(none), cloudCalls(empty))
		none.a, none.b, empty.a, empty.b = none.b, none.a, empty.b, empty.a
		wantEqual(t, inGrid("calls with a second cloud without particles", g), cloudCalls(none), cloudCalls(empty))
		wantEqual(t, inGrid("SameCloud without particles", g), impl.SameCloud(none.b, empty.b), true)
	}
}

// A not-a-number with other bits is an equal argument.
func TestAllNotANumbersAreOneArgumentOfClouds(t *testing.T) {
	g := impl.Grid{Wide: 4, High: 4}
	for _, bits := range []uint32{0x7f800001, 0xffc00000, 0xffffffff} {
		for i := range 14 {
			one, other := repeated(float32(1), 14), repeated(float32(1), 14)
			one[i], other[i] = fromBits(0x7fc00000), fromBits(bits)
			a, b := cloudAs(g, one), cloudAs(g, other)
			wantEqual(t, "SameCloud", impl.SameCloud(a, b), true)
			wantEqual(t, "results of equal clouds", cloudCalls(cloudArguments{a: a, b: b, tick: 1}), cloudCalls(cloudArguments{a: b, b: a, tick: 1}))
		}
		one := cloudArguments{a: ordinaryCloud(g, 3), b: ordinaryCloud(g, 1), tick: fromBits(0x7fc00000)}
		other := one
		other.tick = fromBits(bits)
		wantEqual(t, "results of equal ticks", cloudCalls(one), cloudCalls(other))
	}
}

// Many calls at once, and many calls one after another, return what one does, in
// whatever order cells come.
func TestCloudsAtOnceAreEqual(t *testing.T) {
	s := newSource()
	c := cloudArguments{a: s.gentleCloud(47), b: s.gentleCloud(1), tick: 0.1, rounds: 5, steps: 3, x: 24, y: 9}
	c.b.Grid = c.a.Grid
	want := cloudCalls(c)
	results := make(chan string)
	for range 32 {
		go func() { results <- cloudCalls(c) }()
	}
	for range 32 {
		wantEqual(t, "clouds at once", <-results, want)
	}
	for range 100 {
		wantEqual(t, "FieldsAt once more", bitsOfPlaces(impl.FieldsAt(c.a, 1)), bitsOfPlaces(impl.FieldsAt(c.a, 1)))
	}
}
