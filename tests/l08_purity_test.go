package tests

import (
	"fmt"
	"slices"
	"strings"
	"testing"

	"loop.example/g01226/impl"
)

// waveCalls tell what all functions of chapter 8 return.
func waveCalls(a waveArguments) string {
	g := a.g
	steps, ok := impl.StepsToDouble(a.list)
	return strings.Join([]string{
		bitsOfResult(impl.RowOf(g, a.field, a.y)), bitsOfResult(impl.MeanRow(g, a.field)), bitsOfPlaces(impl.SpectrumOf(a.list)), bitsOfResult(impl.ListOf(a.spectrum)),
		bitsOfParts(impl.ModeOf(g, a.field, a.m)), bitsOfNumber(impl.ModePower(g, a.field, a.m)), bitsOfResult(impl.PowersOfRows(g, a.field)),
		bitsOfResult(impl.KeepModes(g, a.field, a.low, a.high)), bitsOfResult(impl.WaveField(g, a.m, a.size, a.turns)),
		bitsOfAllMoved(impl.WaveParticles(g, a.count, a.m, a.size, a.speed)), bitsOfPlaces(impl.TwoSpectrum(g, a.field)), bitsOfResult(impl.FieldOfTwo(g, a.two)),
		bitsOfNumber(impl.ModeNumber(g, a.m, a.n)), bitsOfResult(impl.ExactPotential(g, a.field)), bitsOfResult(impl.RingPowers(g, a.field)),
		bitsOfNumber(impl.FieldDot(g, a.field, a.other)), bitsOfResult(impl.GrowthsOf(a.list)), fmt.Sprint(steps, ok),
		bitsOfIndex(impl.StrongMode(g, a.field)), bitsOfNumber(impl.SlideOf(g, a.field, a.other, a.m)),
	}, ";")
}

// sameWaveAgain makes copies of what has memory.
func sameWaveAgain(a waveArguments) waveArguments {
	a.field, a.other, a.list = slices.Clone(a.field), slices.Clone(a.other), slices.Clone(a.list)
	a.spectrum, a.two = slices.Clone(a.spectrum), slices.Clone(a.two)
	return a
}

// oddWaves are valid and invalid arguments of many sizes.
func oddWaves() []waveArguments {
	s, numbers, fields := newSource(), oddNumbers(), oddFields()
	var all []waveArguments
	for _, g := range oddGrids() {
		for i, field := range fields {
			other := slices.Clone(field)
			slices.Reverse(other)
			k := int64(i)
			all = append(all, waveArguments{
				g: g, field: field, other: other, list: fields[i][:min(i, len(field))], spectrum: oddComplexes()[i*40:][:i], two: oddComplexes()[i:][:len(field)],
				y: k - 1, m: k%9 - 1, n: k%5 - 1, low: k%4 - 1, high: k % 7, count: k*4 - 1, size: numbers[i], turns: numbers[i+3], speed: numbers[i+5],
			})
		}
	}
	for range 400 {
		all = append(all, s.anyWave(s.grid()))
	}
	return all
}

// keptWave are the wholes of lists with room behind them.
type keptWave struct {
	field, other, list []float32
	spectrum, two      []complex64
}

func keepWave(a *waveArguments) keptWave {
	var k keptWave
	a.field, k.field = withRoom(a.field, 77)
	a.other, k.other = withRoom(a.other, 78)
	a.list, k.list = withRoom(a.list, 79)
	a.spectrum, k.spectrum = withRoom(a.spectrum, 80)
	a.two, k.two = withRoom(a.two, 81)
	return k
}

func (k keptWave) clone() keptWave {
	return keptWave{slices.Clone(k.field), slices.Clone(k.other), slices.Clone(k.list), slices.Clone(k.spectrum), slices.Clone(k.two)}
}

func (k keptWave) equals(other keptWave) bool {
	return equalBits(k.field, other.field) && equalBits(k.other, other.other) && equalBits(k.list, other.list) &&
		slices.EqualFunc(k.spectrum, other.spectrum, equalParts) && slices.EqualFunc(k.two, other.two, equalParts)
}

// Every function returns the same for the same numbers, valid or not, in any
// order of calls, and leaves all that it gets as it is.
func TestArgumentsOfWavesStayUnchanged(t *testing.T) {
	all := oddWaves()
	var first []string
	var wholes, copies []keptWave
	for i := range all {
		whole := keepWave(&all[i])
		wholes, copies = append(wholes, whole), append(copies, whole.clone())
		first = append(first, waveCalls(all[i]))
	}
	for i := len(all) - 1; i >= 0; i-- {
		wantEqual(t, fmt.Sprintf("a second call with %.300v", all[i]), waveCalls(sameWaveAgain(all[i])), first[i])
	}
	for i := range wholes {
		if !wholes[i].equals(copies[i]) {
			t.Fatalf("an argument has been changed: %.300v", copies[i])
		}
	}
}

// One list may come as several arguments, also as parts of one memory.
func TestWavesMayShareArguments(t *testing.T) {
	s := newSource()
	for range 100 {
		a := s.anyWave(s.grid())
		points := int(a.g.Wide * a.g.High)
		numbers, spectrum := s.numbers(points+20), fieldsOfNumbers(s.numbers(2*points))
		a.field, a.other, a.list = numbers[3:3+points], numbers[9:9+points], numbers[5:5+s.Intn(16)]
		a.spectrum, a.two = spectrum[2:2+s.Intn(14)], spectrum
		if s.Intn(2) == 0 {
			a.other = a.field
		}
		kept, keptSpectrum := slices.Clone(numbers), slices.Clone(spectrum)
		wantEqual(t, "calls with parts of lists", waveCalls(a), waveCalls(sameWaveAgain(a)))
		if !equalBits(numbers, kept) || !slices.EqualFunc(spectrum, keptSpectrum, equalParts) {
			t.Fatal("a list has been changed")
		}
	}
}

// resultsOfWaves are all lists that functions return, also those of calls that
// change nothing.
func resultsOfWaves(a waveArguments) (numbers [][]float32, spectra [][]complex64, lists [][]impl.Particle) {
	keep := func(list []float32, ok bool) { numbers = append(numbers, list) }
	keepSpectrum := func(list []complex64, ok bool) { spectra = append(spectra, list) }
	keepParticles := func(list []impl.Particle, ok bool) { lists = append(lists, list) }
	for range 2 {
		for y := range a.g.High {
			keep(impl.RowOf(a.g, a.field, y))
		}
		keep(impl.MeanRow(a.g, a.field))
		keep(impl.ListOf(a.spectrum))
		keep(impl.ListOf(a.spectrum[:1]))
		keep(impl.PowersOfRows(a.g, a.field))
		keep(impl.KeepModes(a.g, a.field, 0, a.g.Wide))
		keep(impl.KeepModes(a.g, a.field, 1, 1))
		keep(impl.WaveField(a.g, a.m, a.size, a.turns))
		keep(impl.WaveField(a.g, 0, 0, 0))
		keep(impl.FieldOfTwo(a.g, a.two))
		keep(impl.ExactPotential(a.g, a.field))
		keep(impl.RingPowers(a.g, a.field))
		keep(impl.GrowthsOf(a.list))
		keepSpectrum(impl.SpectrumOf(a.list))
		keepSpectrum(impl.SpectrumOf(a.list[:1]))
		keepSpectrum(impl.TwoSpectrum(a.g, a.field))
		keepParticles(impl.WaveParticles(a.g, a.count, a.m, a.size, a.speed))
		keepParticles(impl.WaveParticles(a.g, 1, 0, 0, 0))
	}
	return numbers, spectra, lists
}

// wantApart overwrites lists one after another, also behind their ends, and tells
// whether those that follow stay as they are.
func wantApart[T any](t *testing.T, what string, lists [][]T, with T, bits func(list []T) string) {
	t.Helper()
	for i := range lists {
		wantEqual(t, fmt.Sprintf("whether the list %d of %s is there", i, what), len(lists[i]) > 0, true)
		before := bits(slices.Concat(lists[i+1:]...))
		spoil(lists[i], with)
		wantEqual(t, fmt.Sprintf("the %s behind the list %d", what, i), bits(slices.Concat(lists[i+1:]...)), before)
	}
}

// Results that have been overwritten, also behind their ends, change neither
// arguments nor each other nor later results.
func TestResultsOfWavesAreNew(t *testing.T) {
	s := newSource()
	for _, g := range []impl.Grid{{Wide: 4, High: 4}, {Wide: 7, High: 5}, {Wide: 16, High: 16}} {
		a := s.anyWave(g)
		a.field, a.other, a.list, a.spectrum = s.field(g), s.field(g), s.numbers(16), fieldsOfNumbers(s.numbers(32))
		a.y, a.m, a.n, a.low, a.high, a.count, a.size, a.turns, a.speed = 1, 2, 1, 1, 2, 33, 0.5, 0.1, 3
		again, before := sameWaveAgain(a), waveCalls(a)
		numbers, spectra, lists := resultsOfWaves(a)
		wantApart(t, "numbers", numbers, 9, bitsOfList)
		wantApart(t, "spectra", spectra, 9, func(list []complex64) string { return bitsOfList(partsOf(list...)) })
		wantApart(t, "particles", lists, impl.Particle{}, bitsOfParticles)
		if !equalBits(a.field, again.field) || !equalBits(a.other, again.other) || !equalBits(a.list, again.list) || !sameComplexes(a.spectrum, again.spectrum) || !sameComplexes(a.two, again.two) {
			t.Error("a result shares memory with an argument")
		}
		wantEqual(t, inGrid("calls after results have been overwritten", g), waveCalls(a), before)
	}
}

// Nil and empty lists are the same value.
func TestNilAndEmptyAreEqualForWaves(t *testing.T) {
	for _, g := range oddGrids() {
		none := waveArguments{g: g, m: 1, high: 1, count: 2, size: 1}
		empty := none
		empty.field, empty.other, empty.list, empty.spectrum, empty.two = []float32{}, []float32{}, []float32{}, []complex64{}, []complex64{}
		wantEqual(t, inGrid("calls without numbers", g), waveCalls(none), waveCalls(empty))
	}
}

// A not-a-number with other bits is an equal argument.
func TestAllNotANumbersAreOneArgumentOfWaves(t *testing.T) {
	g := impl.Grid{Wide: 4, High: 5}
	for _, bits := range []uint32{0x7f800001, 0xffc00000, 0xffffffff} {
		for i := range 92 {
			var calls []string
			for _, nan := range []float32{fromBits(0x7fc00000), fromBits(bits)} {
				numbers := patterned(92, 1)
				numbers[i] = nan
				calls = append(calls, waveCalls(waveArguments{
					g: g, field: numbers[:20], other: numbers[20:40], list: numbers[40:45], two: fieldsOfNumbers(numbers[45:85]), spectrum: fieldsOfNumbers(numbers[85:89]),
					y: 1, m: 1, n: 1, low: 1, high: 2, count: 3, size: numbers[89], turns: numbers[90], speed: numbers[91],
				}))
			}
			wantEqual(t, fmt.Sprintf("results with another not-a-number as number %d", i), calls[1], calls[0])
		}
	}
}

// Calls that run at once, with the same arguments, return what one call returns.
func TestWavesAtOnceAreEqual(t *testing.T) {
	s := newSource()
	a := s.anyWave(impl.Grid{Wide: 13, High: 16})
	want := waveCalls(a)
	results := make(chan string)
	for range 32 {
		go func() { results <- waveCalls(a) }()
	}
	for range 32 {
		wantEqual(t, "waves at once", <-results, want)
	}
}

// Numbers of rows, modes and particles far beyond all limits.
func TestFarNumbersOfWaves(t *testing.T) {
	s := newSource()
	for _, far := range []int64{1 << 31, 1 << 32, 1<<32 + 1, 1 << 62, 1<<63 - 1, -1 << 63, -1 << 32} {
		for i := range 7 {
			a := s.anyWave(impl.Grid{Wide: 6, High: 5})
			a.y, a.m, a.n, a.low, a.high, a.count = 1, 1, 1, 1, 2, 3
			*[]*int64{&a.y, &a.m, &a.n, &a.low, &a.high, &a.count, &a.g.Wide}[i] = far
			wantEqual(t, inGrid("calls with far numbers", a.g, i, far), waveCalls(sameWaveAgain(a)), waveCalls(a))
			if i < 6 {
				wantWaveWords(t, a, wavesWanted().wordsOf(a))
			}
		}
	}
}
