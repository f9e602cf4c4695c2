package tests

import (
	"fmt"
	"slices"
	"strings"
	"testing"

	"loop.example/g01226/impl"
)

func bitsOfTwo(a, b impl.Particle, ok bool) string {
	return bitsOfAllMoved([]impl.Particle{a, b}, ok)
}

func bitsOfCounted(list []impl.Particle, n int64, ok bool) string {
	return fmt.Sprint(n, bitsOfAllMoved(list, ok))
}

func bitsOfCharged(list []impl.Particle, x float32, ok bool) string {
	return bitsOfCounted(list, impl.BitsOf(x), ok)
}

func bitsOfMetAll(list []impl.Particle, met, seed int64, ok bool) string {
	return fmt.Sprint(met, bitsOfCounted(list, seed, ok))
}

func bitsOfIndex(i int64, x float32, ok bool) string {
	return fmt.Sprint(i, impl.BitsOf(x), ok)
}

func bitsOfPairs(pairs [][]int64, ok bool) string {
	return fmt.Sprint(len(pairs), pairs, ok)
}

// collisionCalls tell what all functions of chapter 6 return.
func collisionCalls(c collision) string {
	a, b := c.two()
	next, one := impl.NextSeed(c.seed)
	return strings.Join([]string{
		fmt.Sprint(next, one), bitsOfNumber(impl.UnitOfSeed(c.seed)), bitsOfParts(impl.PairSpeed(a, b)),
		bitsOfTwo(impl.MeetSpeeds(a, b, c.turns)), bitsOfTwo(impl.BumpSpeeds(a, b)), bitsOfPairs(impl.PairsIn(c.g, c.list)),
		bitsOfMetAll(impl.MeetAll(c.g, c.list, c.seed, c.share)), bitsOfMoved(impl.ReflectAt(a, c.low, c.high, c.keep)),
		bitsOfCounted(impl.ReflectAll(c.list, c.low, c.high, c.keep)), bitsOfCharged(impl.TakeOutside(c.list, c.low, c.high)),
		bitsOfCounted(impl.SpreadSpeeds(c.list, c.seed, c.size)), bitsOfCounted(impl.EmitParticles(c.seed, c.count, a, c.wide)),
		bitsOfAllMoved(impl.SplitParticle(a, c.count)), bitsOfMoved(impl.MergeParticles(a, b)), bitsOfAllMoved(impl.DragSpeeds(c.list, c.keep)),
		bitsOfIndex(impl.CoolestOf(c.list)), bitsOfNumber(impl.SpreadOf(c.list)),
	}, ";")
}

// sameCollisionAgain makes a copy of what has memory.
func sameCollisionAgain(c collision) collision {
	c.list = slices.Clone(c.list)
	return c
}

// oddCollisions are valid and invalid ones with lists of many lengths.
func oddCollisions() []collision {
	s, odd := newSource(), oddNumbers()
	var all []collision
	for i, list := range append(oddLists(), repeated(ordinaryParticle(), 64), nil) {
		for k := range 3 {
			c := s.anyCollision(0)
			c.g, c.list = oddGrids()[(i+k)%len(oddGrids())], list
			c.share, c.keep = odd[i%len(odd)], odd[(i+k)%len(odd)]
			c.count = int64(i%70) - 2
			all = append(all, c)
		}
	}
	for n := range 65 {
		ordinary, odds, crowded := s.anyCollision(n), s.anyCollision(0), s.anyCollision(0)
		crowded.g, crowded.list, crowded.share = impl.Grid{Wide: 4, High: 4}, s.gentleCloud(n).Particles, 0.7
		odds.list = s.anyCloud(n).Particles
		odds.turns, odds.low, odds.high, odds.size, odds.wide = odd[n%len(odd)], odd[n*7%len(odd)], odd[n*11%len(odd)], odd[n*13%len(odd)], odd[n*17%len(odd)]
		odds.seed = wrongSeeds()[n%len(wrongSeeds())]
		all = append(all, ordinary, odds, crowded)
	}
	return all
}

// Every function returns the same for the same numbers, valid or not, in any
// order of calls, and leaves all that it gets as it is.
func TestCollisionsStayUnchanged(t *testing.T) {
	filler := impl.Particle{At: 77, Speed: 78, Charge: 79, Mass: 80}
	all := oddCollisions()
	var first []string
	var wholes, kept [][]impl.Particle
	for i := range all {
		var whole []impl.Particle
		all[i].list, whole = withRoom(all[i].list, filler)
		wholes, kept = append(wholes, whole), append(kept, slices.Clone(whole))
		first = append(first, collisionCalls(all[i]))
	}
	for i := len(all) - 1; i >= 0; i-- {
		wantEqual(t, fmt.Sprintf("a second call with %.300v", all[i]), collisionCalls(sameCollisionAgain(all[i])), first[i])
	}
	for i := range wholes {
		if !equalParticleBits(wholes[i], kept[i]) {
			t.Fatalf("a list of particles has been changed: %.300v", kept[i])
		}
	}
}

// resultsOfCollisions are all lists that functions return, also those of calls
// that change nothing.
func resultsOfCollisions(c collision) (lists [][]impl.Particle, pairs [][]int64) {
	keep := func(list []impl.Particle, ok bool) { lists = append(lists, list) }
	keepCounted := func(list []impl.Particle, n int64, ok bool) { keep(list, ok) }
	keepTaken := func(list []impl.Particle, x float32, ok bool) { keep(list, ok) }
	a, _ := c.two()
	for _, share := range []float32{0, 0.5, 2, notANumber()} {
		list, _, _, ok := impl.MeetAll(c.g, c.list, c.seed, share)
		keep(list, ok)
	}
	for _, high := range []float32{c.high, 1e30} {
		keepCounted(impl.ReflectAll(c.list, c.low-high, high, c.keep))
		keepTaken(impl.TakeOutside(c.list, c.low-high, high))
	}
	for _, size := range []float32{0, c.size} {
		keepCounted(impl.SpreadSpeeds(c.list, c.seed, size))
		keepCounted(impl.EmitParticles(c.seed, c.count, a, size))
	}
	for n := range int64(3) {
		keep(impl.SplitParticle(a, n+1))
		keep(impl.DragSpeeds(c.list, float32(n)))
	}
	pairs, _ = impl.PairsIn(c.g, c.list)
	return lists, pairs
}

// Results that have been overwritten, also behind their ends, change neither
// arguments nor each other nor later results.
func TestResultsOfCollisionsAreNew(t *testing.T) {
	s := newSource()
	c := goodCollision(0)
	c.g, c.list = impl.Grid{Wide: 4, High: 4}, s.gentleCloud(40).Particles
	kept, before := slices.Clone(c.list), collisionCalls(c)
	lists, pairs := resultsOfCollisions(c)
	for i := range lists {
		wantEqual(t, fmt.Sprintf("whether the result %d is there", i), len(lists[i]) > 0, true)
		others := slices.Concat(lists[i+1:]...)
		keptOthers := slices.Clone(others)
		spoil(lists[i], impl.Particle{})
		if !equalParticleBits(slices.Concat(lists[i+1:]...), keptOthers) {
			t.Errorf("result %d shares memory with another one", i)
		}
	}
	wantEqual(t, "whether there are pairs", len(pairs) > 5, true)
	for i := range pairs {
		keptOthers := slices.Concat(pairs[i+1:]...)
		spoil(pairs[i], -9)
		if !slices.Equal(slices.Concat(pairs[i+1:]...), keptOthers) {
			t.Errorf("the pair %d shares memory with another one", i)
		}
	}
	spoil(pairs, nil)
	if !equalParticleBits(c.list, kept) {
		t.Error("a result shares memory with an argument")
	}
	wantEqual(t, "calls after results have been overwritten", collisionCalls(c), before)
}

// A list may be a part of a longer one.
func TestCollisionsMayShareArguments(t *testing.T) {
	s := newSource()
	for range 100 {
		c, whole := s.anyCollision(0), s.gentleCloud(48).Particles
		kept := slices.Clone(whole)
		c.list = whole[3 : 3+s.Intn(40)]
		wantEqual(t, "calls with a part of a list", collisionCalls(c), collisionCalls(sameCollisionAgain(c)))
		if !equalParticleBits(whole, kept) {
			t.Fatal("a list of particles has been changed")
		}
	}
}

// Nil and empty lists are the same value.
func TestNilAndEmptyCollisionsAreEqual(t *testing.T) {
	for _, g := range oddGrids() {
		none, empty := goodCollision(0), goodCollision(0)
		none.g, empty.g, none.list, empty.list = g, g, nil, []impl.Particle{}
		wantEqual(t, inGrid("calls without particles", g), collisionCalls(none), collisionCalls(empty))
	}
}

// A not-a-number with other bits is an equal argument.
func TestAllNotANumbersAreOneArgumentOfCollisions(t *testing.T) {
	for _, bits := range []uint32{0x7f800001, 0xffc00000, 0xffffffff} {
		for i := range 13 {
			var calls []string
			for _, nan := range []float32{fromBits(0x7fc00000), fromBits(bits)} {
				c, numbers := goodCollision(3), repeated(float32(1), 6)
				all := []*float32{&c.share, &c.turns, &c.low, &c.high, &c.keep, &c.size, &c.wide}
				for k := range numbers {
					all = append(all, &numbers[k])
				}
				*all[i] = nan
				c.list = append(c.list, listAs(numbers)...)
				calls = append(calls, collisionCalls(c))
			}
			wantEqual(t, fmt.Sprintf("results with another not-a-number as number %d", i), calls[1], calls[0])
		}
	}
}

// Many calls at once, and many calls one after another, return what one does, in
// whatever order a map has its cells.
func TestCollisionsAtOnceAreEqual(t *testing.T) {
	s := newSource()
	c := s.anyCollision(0)
	c.g, c.list, c.share = impl.Grid{Wide: 4, High: 4}, s.gentleCloud(48).Particles, 0.75
	want := collisionCalls(c)
	results := make(chan string)
	for range 32 {
		go func() { results <- collisionCalls(c) }()
	}
	for range 32 {
		wantEqual(t, "collisions at once", <-results, want)
	}
	for range 100 {
		wantEqual(t, "collisions once more", collisionCalls(c), want)
	}
}
