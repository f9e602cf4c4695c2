package tests

import (
	"fmt"
	"math"
	"slices"
	"strings"
	"testing"

	"loop.example/g01226/impl"
)

func bitsOfShots(s impl.Shots, ok bool) string {
	words := []string{fmt.Sprint(len(s.Clouds), ok)}
	for _, c := range s.Clouds {
		words = append(words, bitsOfCloud(c, ok))
	}
	return strings.Join(words, "/")
}

func bitsOfRescued(s impl.Shots, intact int64, ok bool) string {
	return fmt.Sprint(bitsOfShots(s, ok), intact)
}

func bitsOfBytes(s string, ok bool) string {
	return fmt.Sprintf("%q %t", s, ok)
}

func bitsOfCounts(list []int64, ok bool) string {
	return fmt.Sprint(list, ok)
}

// shotCalls tell what all functions of chapter 10 return.
func shotCalls(a shotArguments) string {
	p, one := impl.ParticleOf(a.text)
	return strings.Join([]string{
		fmt.Sprint(impl.ValidShots(a.s), impl.SameShots(a.s, a.other), impl.SameShots(a.other, a.s), impl.SameShots(a.s, a.s)),
		bitsOfShots(impl.AddShot(a.s, a.c)), bitsOfShots(impl.SliceShots(a.s, a.from, a.count)), bitsOfShots(impl.JoinShots(a.s, a.other)),
		bitsOfBytes(impl.ParticleBytes(a.p)), bitsOfParticles([]impl.Particle{p}), fmt.Sprint(one), bitsOfBytes(impl.StoreCloud(a.c)), bitsOfCloud(impl.LoadCloud(a.text)),
		bitsOfBytes(impl.StoreShots(a.s)), bitsOfShots(impl.LoadShots(a.text)), bitsOfRescued(impl.RecoverShots(a.text)),
		bitsOfCounts(impl.HistogramOf(a.list, a.low, a.high, a.bins)), bitsOfNumber(impl.MomentOf(a.list, a.n)), bitsOfNumber(impl.ChangeOf(a.c, a.d)),
		bitsOfResult(impl.ChangesOf(a.s)), bitsOfPlaces(impl.PathOf(a.s, a.index)), bitsOfCounts(impl.MapOf(a.c)),
	}, ";")
}

func copyOfShots(s impl.Shots) impl.Shots {
	clouds := slices.Clone(s.Clouds)
	for i, c := range clouds {
		clouds[i].Particles = slices.Clone(c.Particles)
	}
	return impl.Shots{Clouds: clouds}
}

// sameShotsAgain makes copies of what has memory.
func sameShotsAgain(a shotArguments) shotArguments {
	a.s, a.other, a.text = copyOfShots(a.s), copyOfShots(a.other), strings.Clone(a.text)
	a.c.Particles, a.d.Particles, a.list = slices.Clone(a.c.Particles), slices.Clone(a.d.Particles), slices.Clone(a.list)
	return a
}

// oddShots are valid and invalid arguments of many sizes.
func oddShots() []shotArguments {
	s, odd := newSource(), oddNumbers()
	var all []shotArguments
	for i, shots := range append(invalidShots(), recoveries()...) {
		text := framed(bytesOfCloud(cloudAs(impl.Grid{Wide: 4, High: 4}, []float32{odd[i%len(odd)], odd[(i+1)%len(odd)]})))
		a := shotsWith(shots, shotsOf(ordinaryCloud(impl.Grid{Wide: 5, High: 4}, i%3)), text, odd[i%len(odd)], odd[i*7%len(odd)], int64(i%5-1), int64(i%4-1), int64(i%3-1), int64(i%70-2), int64(i%10-1))
		all = append(all, a)
	}
	for range 600 {
		all = append(all, s.anyShots())
	}
	return all
}

// keptShots are the wholes of lists with room behind them.
type keptShots struct {
	clouds, others        []impl.Cloud
	particles, otherLists [][]impl.Particle
	list                  []impl.Particle
}

// keepClouds gives a list of clouds, and each list of particles, some room.
func keepClouds(s *impl.Shots) (whole []impl.Cloud, lists [][]impl.Particle) {
	filler := impl.Particle{At: 77, Speed: 78, Charge: 79, Mass: 80}
	s.Clouds, whole = withRoom(s.Clouds, impl.Cloud{Grid: impl.Grid{Wide: 77, High: 78}, Magnet: 79, Back: 80, Particles: []impl.Particle{filler}})
	for i, c := range s.Clouds {
		var list []impl.Particle
		s.Clouds[i].Particles, list = withRoom(c.Particles, filler)
		lists = append(lists, list)
	}
	return whole, lists
}

func keepShots(a *shotArguments) keptShots {
	var k keptShots
	k.clouds, k.particles = keepClouds(&a.s)
	k.others, k.otherLists = keepClouds(&a.other)
	a.list, k.list = withRoom(a.list, impl.Particle{At: 7, Speed: 8, Charge: 9, Mass: 10})
	if len(a.s.Clouds) > 0 {
		a.c, a.d = a.s.Clouds[0], a.s.Clouds[len(a.s.Clouds)-1]
	}
	return k
}

func copyOfLists(lists [][]impl.Particle) [][]impl.Particle {
	var copies [][]impl.Particle
	for _, list := range lists {
		copies = append(copies, slices.Clone(list))
	}
	return copies
}

func (k keptShots) clone() keptShots {
	return keptShots{copyOfShots(shotsOf(k.clouds...)).Clouds, copyOfShots(shotsOf(k.others...)).Clouds, copyOfLists(k.particles), copyOfLists(k.otherLists), slices.Clone(k.list)}
}

func (k keptShots) equals(other keptShots) bool {
	clouds := func(a, b []impl.Cloud) bool {
		return slices.EqualFunc(a, b, func(c, d impl.Cloud) bool {
			return c.Grid == d.Grid && equalBits([]float32{c.Magnet, c.Back}, []float32{d.Magnet, d.Back}) && equalParticleBits(c.Particles, d.Particles)
		})
	}
	return clouds(k.clouds, other.clouds) && clouds(k.others, other.others) && slices.EqualFunc(k.particles, other.particles, equalParticleBits) &&
		slices.EqualFunc(k.otherLists, other.otherLists, equalParticleBits) && equalParticleBits(k.list, other.list)
}

// Every function returns the same for the same numbers, valid or not, in any
// order of calls, and leaves all that it gets as it is.
func TestArgumentsOfShotsStayUnchanged(t *testing.T) {
	all := oddShots()
	var first []string
	var wholes, copies []keptShots
	for i := range all {
		whole := keepShots(&all[i])
		wholes, copies = append(wholes, whole), append(copies, whole.clone())
		first = append(first, shotCalls(all[i]))
	}
	for i := len(all) - 1; i >= 0; i-- {
		wantEqual(t, shortened("a second call with", all[i]), shotCalls(sameShotsAgain(all[i])), first[i])
	}
	for i := range wholes {
		if !wholes[i].equals(copies[i]) {
			t.Fatalf("an argument has been changed: %s", shortened(copies[i]))
		}
	}
}

// Clouds and lists may come several times, also as parts of one memory.
func TestShotsMayShareMemory(t *testing.T) {
	s := newSource()
	for range 200 {
		c := s.gentleCloud(40)
		c.Magnet, c.Back = 1, 2
		parts := shotsOf(withList(c, c.Particles[:7]), withList(c, c.Particles[3:10]), withList(c, c.Particles[:7]), withList(c, c.Particles[33:]))
		kept := copyOfShots(shotsOf(append(slices.Clone(parts.Clouds), c)...))
		a := shotsWith(shotsOf(parts.Clouds[:3]...), shotsOf(parts.Clouds[1:]...), "", -1, 1, 1, 2, 3, 5, 2)
		wantEqual(t, "calls with parts of one memory", shotCalls(a), shotCalls(sameShotsAgain(a)))
		if !slices.EqualFunc(append(slices.Clone(parts.Clouds), c), kept.Clouds, impl.SameCloud) {
			t.Fatal("a cloud has been changed")
		}
	}
}

// resultsOfShots are all lists that functions return, also those of calls that
// change nothing.
func resultsOfShots(a shotArguments) (clouds [][]impl.Cloud, particles [][]impl.Particle, numbers [][]float32, places [][]complex64, counts [][]int64) {
	keepShots := func(s impl.Shots, ok bool) {
		clouds = append(clouds, s.Clouds)
		for _, c := range s.Clouds {
			particles = append(particles, c.Particles)
		}
	}
	keepCloud := func(c impl.Cloud, ok bool) { particles = append(particles, c.Particles) }
	keepNumbers := func(list []float32, ok bool) { numbers = append(numbers, list) }
	keepPlaces := func(list []complex64, ok bool) { places = append(places, list) }
	keepCounts := func(list []int64, ok bool) { counts = append(counts, list) }
	for range 2 {
		keepShots(impl.AddShot(a.s, a.c))
		keepShots(impl.AddShot(impl.Shots{}, a.c))
		keepShots(impl.SliceShots(a.s, 0, int64(len(a.s.Clouds))))
		keepShots(impl.SliceShots(a.s, 1, 1))
		keepShots(impl.JoinShots(a.s, a.s))
		keepShots(impl.JoinShots(a.s, impl.Shots{}))
		keepShots(impl.JoinShots(impl.Shots{}, a.s))
		keepShots(impl.LoadShots(a.text))
		rescued, _, _ := impl.RecoverShots(a.text)
		keepShots(rescued, true)
		rescued, _, _ = impl.RecoverShots(a.text[:len(a.text)-1])
		keepShots(rescued, true)
		text, _ := impl.StoreCloud(a.c)
		keepCloud(impl.LoadCloud(text))
		keepNumbers(impl.ChangesOf(a.s))
		keepPlaces(impl.PathOf(a.s, 0))
		keepCounts(impl.HistogramOf(a.list, -1, 1, 3))
		keepCounts(impl.MapOf(a.c))
	}
	return clouds, particles, numbers, places, counts
}

// Results that have been overwritten, also behind their ends, change neither
// arguments nor each other nor later results.
func TestResultsOfShotsAreNew(t *testing.T) {
	s := newSource()
	for _, n := range []int{1, 3, 48} {
		shots := s.shots(n, n, n)
		a := shotsWith(shots, shots, storedShots(t, shots), -1, 1, 1, 1, 0, 7, 2)
		again, before := sameShotsAgain(a), shotCalls(a)
		clouds, particles, numbers, places, counts := resultsOfShots(a)
		other := impl.Cloud{Grid: impl.Grid{Wide: 9, High: 9}, Magnet: 9, Back: 9}
		wantApart(t, "particles", particles, impl.Particle{At: 9, Speed: 9, Charge: 9, Mass: 9}, bitsOfParticles)
		wantApart(t, "clouds", clouds, other, func(list []impl.Cloud) string { return bitsOfShots(shotsOf(list...), true) })
		wantApart(t, "numbers", numbers, 9, bitsOfList)
		wantApart(t, "places", places, 9, func(list []complex64) string { return bitsOfList(partsOf(list...)) })
		wantApart(t, "counts", counts, 9, func(list []int64) string { return fmt.Sprint(list) })
		wantEqual(t, "calls after results have been overwritten", shotCalls(a), before)
		wantEqual(t, "calls with copies after results have been overwritten", shotCalls(again), before)
	}
}

// Nil and empty lists are the same value.
func TestNilAndEmptyAreEqualForShots(t *testing.T) {
	for _, index := range []int64{-1, 0, 1, 8} {
		none := shotsWith(impl.Shots{}, impl.Shots{}, "", -1, 1, index, index, index, index, index)
		empty := none
		empty.s.Clouds, empty.other.Clouds, empty.list = []impl.Cloud{}, []impl.Cloud{}, []impl.Particle{}
		wantEqual(t, "calls without clouds", shotCalls(none), shotCalls(empty))
		c := impl.Cloud{Grid: impl.Grid{Wide: 4, High: 4}}
		d := withList(c, []impl.Particle{})
		none = shotsWith(shotsOf(c, c), shotsOf(c), "", -1, 1, index, index, index, index, index)
		empty = shotsWith(shotsOf(d, d), shotsOf(d), "", -1, 1, index, index, index, index, index)
		wantEqual(t, "calls without particles", shotCalls(none), shotCalls(empty))
		wantEqual(t, "SameShots of both", impl.SameShots(none.s, empty.s), true)
	}
}

// A not-a-number with other bits is an equal argument.
func TestAllNotANumbersAreOneArgumentOfShots(t *testing.T) {
	for _, bits := range []uint32{0x7f800001, 0xffc00000, 0xffffffff} {
		for i := range 22 {
			var calls []string
			for _, nan := range []float32{fromBits(0x7fc00000), fromBits(bits)} {
				numbers := repeated(float32(2), 22)
				numbers[i] = nan
				c, d := cloudAs(impl.Grid{Wide: 4, High: 4}, numbers[:8]), cloudAs(impl.Grid{Wide: 4, High: 4}, numbers[8:16])
				a := shotsWith(shotsOf(c, d), shotsOf(d, c), "", numbers[16], numbers[17]+1, 0, 2, 0, 3, 2)
				a.p = particleOf([6]float32(numbers[16:]))
				calls = append(calls, shotCalls(a))
			}
			wantEqual(t, fmt.Sprintf("results with another not-a-number as number %d", i), calls[1], calls[0])
		}
	}
}

// Calls that run at once, with the same arguments, return what one call returns.
func TestShotsAtOnceAreEqual(t *testing.T) {
	s := newSource()
	shots := s.shots(7, 7, 48)
	shots.Clouds[2].Particles = shots.Clouds[2].Particles[:7]
	a := shotsWith(shots, shots, storedShots(t, shots), -1, 1, 1, 2, 6, 33, 5)
	want := shotCalls(a)
	calls := make(chan string)
	for range 32 {
		go func() { calls <- shotCalls(a) }()
	}
	for range 32 {
		wantEqual(t, "shots at once", <-calls, want)
	}
}

// Numbers far beyond all limits, and long texts.
func TestFarNumbersOfShots(t *testing.T) {
	s := newSource()
	for _, far := range []int64{1 << 31, 1 << 32, 1<<32 + 1, 1 << 62, math.MaxInt64, math.MinInt64, -1 << 32} {
		for i := range 7 {
			shots := s.shots(2, 2, 2)
			a := shotsWith(shots, shots, storedShots(t, shots), -1, 1, 1, 1, 1, 3, 2)
			*[]*int64{&a.from, &a.count, &a.index, &a.bins, &a.n, &a.s.Clouds[1].Grid.Wide, &a.other.Clouds[2].Grid.High}[i] = far
			wantEqual(t, fmt.Sprint("calls with far numbers ", i, far), shotCalls(sameShotsAgain(a)), shotCalls(a))
			wantShotWords(t, a, shotsWanted().wordsOf(a))
		}
	}
	long := strings.Repeat(framed(emptyBytes), 100000)
	wantRecovered(t, "RecoverShots of a long text", long, shotsOf(impl.Cloud{Grid: impl.Grid{Wide: 4, High: 4}}), 17)
	wantNoShotsOf(t, long)
	wantNoCloudOf(t, long)
	wantNoParticleOf(t, long)
}
