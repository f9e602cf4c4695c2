package tests

import (
	"math"
	"slices"
	"strings"
	"testing"

	"loop.example/g01226/impl"
)

// waveArguments are all arguments of the functions of chapter 8.
type waveArguments struct {
	g                         impl.Grid
	field, other, list        []float32
	spectrum, two             []complex64
	y, m, n, low, high, count int64
	size, turns, speed        float32
}

// anyWave has arguments some of which may be just beyond their limits.
func (s source) anyWave(g impl.Grid) waveArguments {
	a := waveArguments{
		g: g, field: s.field(g), other: s.field(g), list: s.numbers(s.Intn(18)), spectrum: fieldsOfNumbers(s.numbers(2 * s.Intn(18))),
		two: fieldsOfNumbers(s.numbers(int(2 * g.Wide * g.High))), y: s.Int63n(g.High+2) - 1, m: s.Int63n(g.Wide+2) - 1, n: s.Int63n(g.High+2) - 1,
		low: s.Int63n(g.Wide+2) - 1, high: s.Int63n(g.Wide+3) - 1, count: s.Int63n(67) - 1, size: s.number(), turns: s.number(), speed: s.number(),
	}
	switch s.Intn(8) {
	case 0:
		a.field, a.other = s.anyField(g), s.anyField(g)
	case 1:
		a.list, a.size, a.turns = s.numbers(s.Intn(258)), s.finiteBits(), s.finiteBits()
	case 2:
		a.spectrum, a.speed = oddComplexes()[s.Intn(800):][:s.Intn(18)], s.finiteBits()
	case 3:
		a.list, a.size = oddNumbers()[:s.Intn(30)], oddNumbers()[s.Intn(30)]
	}
	return a
}

// waveFunctions are all functions of chapter 8.
type waveFunctions struct {
	row           func(g impl.Grid, field []float32, y int64) ([]float32, bool)
	mean          func(g impl.Grid, field []float32) ([]float32, bool)
	spectrum      func(list []float32) ([]complex64, bool)
	list          func(spectrum []complex64) ([]float32, bool)
	mode          func(g impl.Grid, field []float32, m int64) (complex64, bool)
	power         func(g impl.Grid, field []float32, m int64) (float32, bool)
	powers        func(g impl.Grid, field []float32) ([]float32, bool)
	keep          func(g impl.Grid, field []float32, low, high int64) ([]float32, bool)
	wave          func(g impl.Grid, m int64, size, turns float32) ([]float32, bool)
	particles     func(g impl.Grid, count, m int64, size, speed float32) ([]impl.Particle, bool)
	twoSpectrum   func(g impl.Grid, field []float32) ([]complex64, bool)
	fieldOfTwo    func(g impl.Grid, spectrum []complex64) ([]float32, bool)
	number        func(g impl.Grid, m, n int64) (float32, bool)
	potential     func(g impl.Grid, charge []float32) ([]float32, bool)
	rings         func(g impl.Grid, field []float32) ([]float32, bool)
	dot           func(g impl.Grid, a, b []float32) (float32, bool)
	growths       func(list []float32) ([]float32, bool)
	stepsToDouble func(list []float32) (int64, bool)
	strong        func(g impl.Grid, field []float32) (int64, float32, bool)
	slide         func(g impl.Grid, before, after []float32, m int64) (float32, bool)
}

func wavesGiven() waveFunctions {
	return waveFunctions{
		impl.RowOf, impl.MeanRow, impl.SpectrumOf, impl.ListOf, impl.ModeOf, impl.ModePower, impl.PowersOfRows, impl.KeepModes, impl.WaveField, impl.WaveParticles,
		impl.TwoSpectrum, impl.FieldOfTwo, impl.ModeNumber, impl.ExactPotential, impl.RingPowers, impl.FieldDot, impl.GrowthsOf, impl.StepsToDouble, impl.StrongMode, impl.SlideOf,
	}
}

func wavesWanted() waveFunctions {
	return waveFunctions{
		rowOfWanted, meanRowWanted, spectrumWanted, listWanted, modeWanted, modePowerWanted, powersWanted, keepWanted, waveWanted, waveParticlesWanted,
		twoSpectrumWanted, fieldOfTwoWanted, modeNumberWanted, exactWanted, ringPowersWanted, fieldDotWanted, growthsWanted, doubleWanted, strongWanted, slideWanted,
	}
}

// wordsOf tells what the functions return, in the order of the chapter.
func (f waveFunctions) wordsOf(a waveArguments) string {
	g := a.g
	return strings.Join([]string{
		wordOfNumbers(f.row(g, a.field, a.y)), wordOfNumbers(f.mean(g, a.field)), wordOfComplexes(f.spectrum(a.list)), wordOfNumbers(f.list(a.spectrum)),
		wordOfComplex(f.mode(g, a.field, a.m)), wordOfNumber(f.power(g, a.field, a.m)), wordOfNumbers(f.powers(g, a.field)), wordOfNumbers(f.keep(g, a.field, a.low, a.high)),
		wordOfNumbers(f.wave(g, a.m, a.size, a.turns)), wordOfSome(f.particles(g, a.count, a.m, a.size, a.speed)), wordOfComplexes(f.twoSpectrum(g, a.field)),
		wordOfNumbers(f.fieldOfTwo(g, a.two)), wordOfNumber(f.number(g, a.m, a.n)), wordOfNumbers(f.potential(g, a.field)), wordOfNumbers(f.rings(g, a.field)),
		wordOfNumber(f.dot(g, a.field, a.other)), wordOfNumbers(f.growths(a.list)), wordOfCount(f.stepsToDouble(a.list)), wordOfStrong(f.strong(g, a.field)),
		wordOfNumber(f.slide(g, a.field, a.other, a.m)),
	}, ";")
}

func wordOfStrong(m int64, power float32, ok bool) string {
	return wordOfList(ok, nil, m, impl.BitsOf(power))
}

func wantWaveWords(t *testing.T, a waveArguments, want string) {
	t.Helper()
	if got := wavesGiven().wordsOf(a); got != want {
		t.Errorf("the words of %.3000v: got %s, want %s", a, got, want)
	}
}

// reals are complex numbers without imaginary parts.
func reals(list ...float32) []complex64 {
	var numbers []complex64
	for _, x := range list {
		numbers = append(numbers, complex(x, 0))
	}
	return numbers
}

// The functions below tell what the document tells, in other ways, each step as
// one on 64-bit numbers that is narrowed. They take valid grids and fields.

// pointWanted is on the circle, k times m of n parts away from 1, back or forth.
func pointWanted(k, m, n int, direction float64) complex64 {
	return impl.PhasorOf(direction * (math.Mod(float64(k*m), float64(n)) / float64(n)))
}

func productWanted(x, y complex64) complex64 {
	return complex64(complex128(x) * complex128(y))
}

// spectrumWanted adds what each number brings to all sums.
func spectrumWanted(list []float32) ([]complex64, bool) {
	n := len(list)
	if n == 0 || n > 16 {
		return nil, false
	}
	sums := make([]complex64, n)
	for k, x := range list {
		for m := range sums {
			sums[m] = sumWanted(sums[m], scaledWanted(pointWanted(m, k, n, -1), x))
		}
	}
	return sums, true
}

func lineWanted(line []complex64, direction float64) []complex64 {
	sums := make([]complex64, len(line))
	for k, x := range line {
		for m := range sums {
			sums[m] = sumWanted(sums[m], productWanted(x, pointWanted(m, k, len(line), direction)))
		}
	}
	return sums
}

func listWanted(spectrum []complex64) ([]float32, bool) {
	n := len(spectrum)
	if n == 0 || n > 16 {
		return nil, false
	}
	var list []float32
	for _, x := range lineWanted(spectrum, 1) {
		list = append(list, over(real(x), float32(n)))
	}
	return list, true
}

func within(low, x, high int64) bool {
	return x >= low && x <= high
}

func rowOfWanted(g impl.Grid, field []float32, y int64) ([]float32, bool) {
	if !within(0, y, g.High-1) {
		return nil, false
	}
	var row []float32
	for i, x := range field {
		if int64(i)/g.Wide == y {
			row = append(row, x)
		}
	}
	return row, true
}

func meanRowWanted(g impl.Grid, field []float32) ([]float32, bool) {
	mean := make([]float32, g.Wide)
	for i, x := range field {
		mean[int64(i)%g.Wide] = plus(mean[int64(i)%g.Wide], x)
	}
	for i, x := range mean {
		mean[i] = over(x, float32(g.High))
	}
	return mean, true
}

func modeWanted(g impl.Grid, field []float32, m int64) (complex64, bool) {
	mean, _ := meanRowWanted(g, field)
	modes, _ := spectrumWanted(mean)
	if !within(0, m, g.Wide-1) {
		return 0, false
	}
	return modes[m], true
}

func modePowerWanted(g impl.Grid, field []float32, m int64) (float32, bool) {
	if !within(0, m, g.Wide-1) {
		return 0, false
	}
	sum := float32(0)
	for y := range g.High {
		row, _ := rowOfWanted(g, field, y)
		modes, _ := spectrumWanted(row)
		sum = plus(sum, powerWanted(modes[m]))
	}
	return sum, true
}

func powersWanted(g impl.Grid, field []float32) ([]float32, bool) {
	var powers []float32
	for m := int64(0); 2*m <= g.Wide; m++ {
		power, _ := modePowerWanted(g, field, m)
		powers = append(powers, power)
	}
	return powers, true
}

func keepWanted(g impl.Grid, field []float32, low, high int64) ([]float32, bool) {
	if low < 0 || low > high || high > g.Wide {
		return nil, false
	}
	var after []float32
	for row := range slices.Chunk(field, int(g.Wide)) {
		modes, _ := spectrumWanted(row)
		kept := make([]complex64, len(modes))
		for i := low; i <= high; i++ {
			for _, m := range []int64{i, g.Wide - i} {
				if m < g.Wide {
					kept[m] = modes[m]
				}
			}
		}
		list, _ := listWanted(kept)
		after = append(after, list...)
	}
	return after, true
}

func waveWanted(g impl.Grid, m int64, size, turns float32) ([]float32, bool) {
	if !within(0, m, g.Wide) || !finite(size) || !finite(turns) {
		return nil, false
	}
	var row []float32
	for x := range g.Wide {
		there := times(float32(m), over(float32(x), float32(g.Wide)))
		row = append(row, times(size, impl.SineTurns(plus(there, turns))))
	}
	return slices.Repeat(row, int(g.High)), true
}

func waveParticlesWanted(g impl.Grid, count, m int64, size, speed float32) ([]impl.Particle, bool) {
	if !within(1, count, 64) || !within(0, m, g.Wide) || !finite(size) || !finite(speed) {
		return nil, false
	}
	var list []impl.Particle
	for i := range count {
		q := over(plus(float32(i), 0.5), float32(count))
		x := plus(times(float32(g.Wide), q), times(size, impl.SineTurns(times(float32(m), q))))
		list = append(list, impl.Particle{At: complex(x, over(float32(g.High), 2)), Speed: complex(speed, 0), Charge: 1, Mass: 1})
	}
	return list, true
}

// inColumns changes the columns of numbers that stand row by row.
func inColumns(g impl.Grid, numbers []complex64, change func(line []complex64) []complex64) []complex64 {
	changed := make([]complex64, len(numbers))
	for x := range int(g.Wide) {
		var line []complex64
		for y := range int(g.High) {
			line = append(line, numbers[x+y*int(g.Wide)])
		}
		for y, n := range change(line) {
			changed[x+y*int(g.Wide)] = n
		}
	}
	return changed
}

func twoSpectrumWanted(g impl.Grid, field []float32) ([]complex64, bool) {
	var rows []complex64
	for row := range slices.Chunk(field, int(g.Wide)) {
		modes, _ := spectrumWanted(row)
		rows = append(rows, modes...)
	}
	return inColumns(g, rows, func(line []complex64) []complex64 { return lineWanted(line, -1) }), true
}

// leadWanted leads a line back.
func leadWanted(line []complex64) []complex64 {
	back := lineWanted(line, 1)
	for i, x := range back {
		back[i] = scaledWanted(x, over(1, float32(len(line))))
	}
	return back
}

func fieldOfTwoWanted(g impl.Grid, spectrum []complex64) ([]float32, bool) {
	var field []float32
	for row := range slices.Chunk(inColumns(g, spectrum, leadWanted), int(g.Wide)) {
		for _, x := range leadWanted(row) {
			field = append(field, real(x))
		}
	}
	return field, true
}

func modeNumberWanted(g impl.Grid, m, n int64) (float32, bool) {
	if !within(0, m, g.Wide-1) || !within(0, n, g.High-1) {
		return 0, false
	}
	x, y := impl.SineTurns(over(float32(m), float32(2*g.Wide))), impl.SineTurns(over(float32(n), float32(2*g.High)))
	return times(4, plus(times(x, x), times(y, y))), true
}

func exactWanted(g impl.Grid, charge []float32) ([]float32, bool) {
	spectrum, _ := twoSpectrumWanted(g, charge)
	for i, x := range spectrum {
		number, _ := modeNumberWanted(g, int64(i)%g.Wide, int64(i)/g.Wide)
		spectrum[i] = scaledWanted(x, over(1, number))
	}
	spectrum[0] = 0
	return fieldOfTwoWanted(g, spectrum)
}

// ringWantedOf is the ring of a mode by a root of 64-bit numbers, which is exact
// where it is an integer.
func ringWantedOf(g impl.Grid, i int) int {
	m, n := int64(i)%g.Wide, int64(i)/g.Wide
	x, y := min(m, g.Wide-m), min(n, g.High-n)
	return int(math.Floor(math.Sqrt(float64(x*x + y*y))))
}

func ringPowersWanted(g impl.Grid, field []float32) ([]float32, bool) {
	spectrum, _ := twoSpectrumWanted(g, field)
	var powers []float32
	for i, x := range spectrum {
		for ringWantedOf(g, i) >= len(powers) {
			powers = append(powers, 0)
		}
		powers[ringWantedOf(g, i)] = plus(powers[ringWantedOf(g, i)], powerWanted(x))
	}
	return powers, true
}

func fieldDotWanted(g impl.Grid, a, b []float32) (float32, bool) {
	sum := 0.0
	for i := range a {
		sum += float64(a[i]) * float64(b[i])
	}
	return float32(sum), true
}

func growthsWanted(list []float32) ([]float32, bool) {
	if len(list) > 256 {
		return nil, false
	}
	var growths []float32
	for i, x := range list {
		if i > 0 {
			growths = append(growths, over(x, list[i-1]))
		}
	}
	return growths, true
}

func doubleWanted(list []float32) (int64, bool) {
	if len(list) > 256 {
		return 0, false
	}
	i := slices.IndexFunc(list, func(x float32) bool { return x >= times(2, list[0]) })
	return int64(max(i, 0)), i >= 0
}

// strongWanted goes down from the last mode, so that an equal one before it wins.
func strongWanted(g impl.Grid, field []float32) (int64, float32, bool) {
	powers, _ := powersWanted(g, field)
	strong, most := 0, float32(0)
	for m := len(powers) - 1; m > 0; m-- {
		if p := powers[m]; p == p && (strong == 0 || p >= most) {
			strong, most = m, p
		}
	}
	return int64(strong), most, strong > 0
}

func slideWanted(g impl.Grid, before, after []float32, m int64) (float32, bool) {
	from, ok := modeWanted(g, before, m)
	to, _ := modeWanted(g, after, m)
	if !ok {
		return 0, false
	}
	return turnedIn(minus(impl.AngleOf(to), impl.AngleOf(from))), true
}

// turnedIn brings a way around a circle to half a turn at most.
func turnedIn(turns float32) float32 {
	if turns < -0.5 {
		return plus(turns, 1)
	}
	if turns > 0.5 {
		return minus(turns, 1)
	}
	return turns
}
