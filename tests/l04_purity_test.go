package tests

import (
	"fmt"
	"slices"
	"strings"
	"testing"

	"loop.example/g01226/impl"
)

func bitsOfParts(x complex64, ok bool) string {
	return fmt.Sprint(complexBits(x), ok)
}

func bitsOfPlaces(list []complex64, ok bool) string {
	return fmt.Sprint(bitsOfList(partsOf(list...)), ok)
}

func bitsOfMoved(p impl.Particle, ok bool) string {
	return fmt.Sprint(bitsOfParticles([]impl.Particle{p}), ok)
}

func bitsOfAllMoved(list []impl.Particle, ok bool) string {
	return fmt.Sprint(bitsOfParticles(list), ok)
}

func bitsOfTwoFields(x, y []float32, ok bool) string {
	return fmt.Sprint(bitsOfList(x), bitsOfList(y), ok)
}

// pushCalls tell what all functions of chapter 4 return.
func pushCalls(a pushArguments, steps int64) string {
	after := ordinaryParticle()
	return strings.Join([]string{
		bitsOfNumber(impl.PullOf(a.p)), bitsOfParts(impl.TurnOf(a.p, a.magnet, a.tick)), bitsOfParts(impl.KickOf(a.p, a.field, a.tick)),
		bitsOfParts(impl.PushSpeed(a.p, a.field, a.magnet, a.tick)), bitsOfParts(impl.DriftPlace(a.g, a.p.At, a.p.Speed, a.tick)),
		bitsOfPlaces(impl.OrbitOf(a.p, a.field, a.magnet, a.tick, steps)), bitsOfNumber(impl.RadiusOf(a.p, a.magnet)),
		bitsOfNumber(impl.TurnsOf(a.p, a.magnet, a.tick)), bitsOfParts(impl.CrossSpeed(a.field, a.magnet)), bitsOfParts(impl.OrbitCentre(a.p, a.magnet)),
		bitsOfParts(impl.WayOfLeap(a.g, a.p, after)), bitsOfParts(impl.SpeedBetween(a.g, after, a.p, a.tick)),
		bitsOfTwoFields(impl.EvenField(a.g, a.field)), bitsOfTwoFields(impl.SpringField(a.g, a.magnet)), bitsOfNumber(impl.LongestLeap(a.list, a.tick)),
		leapCalls(a, steps),
	}, ";")
}

func leapCalls(a pushArguments, steps int64) string {
	return strings.Join([]string{
		bitsOfMoved(impl.LeapOnce(a.g, a.p, a.x, a.y, a.magnet, a.tick)), bitsOfMoved(impl.BackOnce(a.g, a.p, a.x, a.y, a.magnet, a.tick)),
		bitsOfAllMoved(impl.LeapAll(a.g, a.list, a.x, a.y, a.magnet, a.tick)), bitsOfAllMoved(impl.BackAll(a.g, a.list, a.x, a.y, a.magnet, a.tick)),
		bitsOfAllMoved(impl.StartBack(a.g, a.list, a.x, a.y, a.magnet, a.tick)), bitsOfAllMoved(impl.RunLeaps(a.g, a.list, a.x, a.y, a.magnet, a.tick, steps)),
	}, ";")
}

// sameAgain makes copies of what has memory, so that a second call gets equal
// arguments in other memory.
func sameAgain(a pushArguments) pushArguments {
	a.list, a.x, a.y = slices.Clone(a.list), slices.Clone(a.x), slices.Clone(a.y)
	return a
}

// Every function returns the same for the same numbers, valid or not, in any order of calls.
func TestPushesAreAlwaysTheSame(t *testing.T) {
	numbers := oddNumbers()
	var all []pushArguments
	for i, x := range numbers {
		for k, y := range numbers {
			a := goodArguments(impl.Grid{Wide: 4, High: 5})
			a.magnet, a.tick, a.field = x, y, complex(y, numbers[(i+k)%len(numbers)])
			a.p = impl.Particle{At: complex(numbers[(i*7+k)%len(numbers)], 1), Speed: complex(y, x), Charge: numbers[(i+3*k)%len(numbers)], Mass: 2}
			if k%2 == 0 {
				a.p = ordinaryParticle()
			}
			all = append(all, a)
		}
	}
	first := make([]string, len(all))
	for i, a := range all {
		first[i] = pushCalls(a, int64(i%67)-1)
	}
	for i := len(all) - 1; i >= 0; i-- {
		wantEqual(t, fmt.Sprintf("a second call with %v", all[i]), pushCalls(sameAgain(all[i]), int64(i%67)-1), first[i])
	}
}

func TestPushersStayUnchanged(t *testing.T) {
	filler := impl.Particle{At: 77, Speed: 78, Charge: 79, Mass: 80}
	for _, g := range oddGrids() {
		fields := append(oddFields(), patterned(16, 3), patterned(35, 4), patterned(78, 5))
		for i, list := range oddLists() {
			field := fields[i%len(fields)]
			if impl.ValidGrid(g) && i%4 > 0 {
				field = patterned(int(g.Wide*g.High), i)
			}
			other := slices.Clone(field)
			slices.Reverse(other)
			a := pushArguments{g: g, p: ordinaryParticle(), field: 1, magnet: 0.3, tick: 0.7}
			var wholeX, wholeY []float32
			var wholeList []impl.Particle
			a.x, wholeX = withRoom(field, 77)
			a.y, wholeY = withRoom(other, 78)
			a.list, wholeList = withRoom(list, filler)
			keptX, keptY, keptList := slices.Clone(wholeX), slices.Clone(wholeY), slices.Clone(wholeList)
			first := leapCalls(a, 3)
			turned := a
			turned.x, turned.y, turned.tick = a.y, a.x, -1e38
			leapCalls(turned, 64)
			wantEqual(t, inGrid("a second call", g, list), leapCalls(sameAgain(a), 3), first)
			if !equalBits(wholeX, keptX) || !equalBits(wholeY, keptY) || !equalParticleBits(wholeList, keptList) {
				t.Fatalf("an argument has been changed in %v, with %v", g, list)
			}
		}
	}
}

// One field may come twice, and a list may be a part of a longer one.
func TestPushersMayShareArguments(t *testing.T) {
	s := newSource()
	for _, g := range validGrids() {
		a := goodArguments(g)
		whole := s.particles(64)
		kept, keptX := slices.Clone(whole), slices.Clone(a.x)
		a.list, a.y = whole[10:50], a.x
		wantEqual(t, inGrid("a call with one field twice", g), pushCalls(a, 5), pushCalls(sameAgain(a), 5))
		if !equalParticleBits(whole, kept) || !equalBits(a.x, keptX) {
			t.Fatalf("an argument has been changed in %v", g)
		}
	}
}

// Results that have been overwritten change neither arguments nor later results.
func TestResultsOfPushersAreNew(t *testing.T) {
	g := impl.Grid{Wide: 5, High: 7}
	a := goodArguments(g)
	a.list = newSource().particles(20)
	kept := sameAgain(a)
	before := pushCalls(a, 2)
	for range 2 {
		spoilResults(a)
	}
	if !equalParticleBits(a.list, kept.list) || !equalBits(a.x, kept.x) || !equalBits(a.y, kept.y) {
		t.Error("a result shares memory with an argument")
	}
	wantEqual(t, "calls after results have been overwritten", pushCalls(a, 2), before)
	for _, make := range []func() ([]float32, []float32, bool){
		func() ([]float32, []float32, bool) { return impl.EvenField(g, complex(3, 3)) },
		func() ([]float32, []float32, bool) { return impl.SpringField(g, 3) },
	} {
		x, y, _ := make()
		keptY := slices.Clone(y)
		spoil(x, 99)
		wantField(t, "the second field beside an overwritten one", y, keptY)
	}
}

func spoilResults(a pushArguments) {
	for steps := range int64(3) {
		run, _ := impl.RunLeaps(a.g, a.list, a.x, a.y, a.magnet, a.tick, steps)
		orbit, _ := impl.OrbitOf(a.p, a.field, a.magnet, a.tick, steps)
		spoil(run, impl.Particle{})
		spoil(orbit, 9)
	}
	leapt, _ := impl.LeapAll(a.g, a.list, a.x, a.y, a.magnet, a.tick)
	gone, _ := impl.BackAll(a.g, a.list, a.x, a.y, a.magnet, a.tick)
	started, _ := impl.StartBack(a.g, a.list, a.x, a.y, a.magnet, a.tick)
	spoil(leapt, impl.Particle{})
	spoil(gone, impl.Particle{})
	spoil(started, impl.Particle{})
	for _, value := range []complex64{0, 1} {
		x, y, _ := impl.EvenField(a.g, value)
		spoil(x, 9)
		spoil(y, 9)
	}
	x, y, _ := impl.SpringField(a.g, 1)
	spoil(x, 9)
	spoil(y, 9)
}

// Nil and empty lists are the same value.
func TestNilAndEmptyPushersAreEqual(t *testing.T) {
	for _, g := range oddGrids() {
		a := pushArguments{g: g, p: ordinaryParticle(), field: 1, magnet: 1, tick: 1}
		b := a
		b.list, b.x, b.y = []impl.Particle{}, []float32{}, []float32{}
		wantEqual(t, inGrid("calls with neither particles nor numbers", g), pushCalls(a, 3), pushCalls(b, 3))
		if impl.ValidGrid(g) {
			a.x, a.y = patterned(int(g.Wide*g.High), 1), patterned(int(g.Wide*g.High), 2)
			b.x, b.y = a.x, a.y
			wantEqual(t, inGrid("calls without particles", g), pushCalls(a, 3), pushCalls(b, 3))
		}
	}
}

// A not-a-number with other bits is an equal argument.
func TestAllNotANumbersAreOneArgumentOfPushers(t *testing.T) {
	g := impl.Grid{Wide: 4, High: 4}
	for _, bits := range []uint32{0x7f800001, 0xffc00000, 0xffffffff} {
		one, other := fromBits(0x7fc00000), fromBits(bits)
		for i := range 16 {
			a, b := goodArguments(g), goodArguments(g)
			a.x[i], b.x[i], a.y[15-i], b.y[15-i] = one, other, other, one
			wantEqual(t, "results of equal fields", pushCalls(a, 3), pushCalls(b, 3))
		}
		a, b := goodArguments(g), goodArguments(g)
		a.magnet, b.magnet = one, other
		wantEqual(t, "results of equal magnets", pushCalls(a, 3), pushCalls(b, 3))
		a, b = goodArguments(g), goodArguments(g)
		a.tick, b.tick, a.field, b.field = one, other, complex(1, one), complex(1, other)
		wantEqual(t, "results of equal ticks", pushCalls(a, 3), pushCalls(b, 3))
	}
}

// Calls that run at once, with the same arguments, return what one call returns.
func TestPushersAtOnceAreEqual(t *testing.T) {
	a := goodArguments(impl.Grid{Wide: 16, High: 16})
	a.list = newSource().particles(64)
	want := leapCalls(a, 20)
	results := make(chan string)
	for range 32 {
		go func() { results <- leapCalls(a, 20) }()
	}
	for range 32 {
		wantEqual(t, "leaps at once", <-results, want)
	}
}
