package tests

import (
	"fmt"
	"math"
	"slices"
	"strings"
	"testing"

	"loop.example/g01226/impl"
)

func driftOf(long float32) impl.Element {
	return impl.Element{Kind: impl.ElementDrift, Number: long}
}

func lensOf(focus float32) impl.Element {
	return impl.Element{Kind: impl.ElementLens, Number: focus}
}

func apertureOf(half float32) impl.Element {
	return impl.Element{Kind: impl.ElementAperture, Number: half}
}

func kickOf(by float32) impl.Element {
	return impl.Element{Kind: impl.ElementKick, Number: by}
}

func resonatorOf(size, phase float32) impl.Element {
	return impl.Element{Kind: impl.ElementResonator, Number: size, Phase: phase}
}

// rayAt is a ray whose phase and energy are 0.
func rayAt(x, y float32) impl.Ray {
	return impl.Ray{At: complex(x, y)}
}

func raysAt(places ...complex64) []impl.Ray {
	var rays []impl.Ray
	for _, at := range places {
		rays = append(rays, impl.Ray{At: at})
	}
	return rays
}

// raysAs makes rays of four numbers each.
func raysAs(numbers []float32) []impl.Ray {
	var rays []impl.Ray
	for four := range slices.Chunk(numbers, 4) {
		rays = append(rays, impl.Ray{At: complex(four[0], four[1]), Phase: four[2], Energy: four[3]})
	}
	return rays
}

func numbersOfRays(rays ...impl.Ray) []float32 {
	var numbers []float32
	for _, r := range rays {
		numbers = append(numbers, real(r.At), imag(r.At), r.Phase, r.Energy)
	}
	return numbers
}

// lineAs makes elements of digits for their kinds, and of two numbers each.
func lineAs(kinds string, numbers []float32) []impl.Element {
	var line []impl.Element
	for i, kind := range kinds {
		line = append(line, impl.Element{Kind: int64(kind - '0'), Number: numbers[2*i], Phase: numbers[2*i+1]})
	}
	return line
}

func numbersOfLine(line []impl.Element) (numbers []float32, kinds []int64) {
	for _, e := range line {
		numbers, kinds = append(numbers, e.Number, e.Phase), append(kinds, e.Kind)
	}
	return numbers, kinds
}

// shortened is the text of arguments, the end of which is left out if it is long.
func shortened(list ...any) string {
	return fmt.Sprintf("%.1000s", fmt.Sprint(list...))
}

func sameRays(a, b []impl.Ray) bool {
	return sameNumbers(numbersOfRays(a...), numbersOfRays(b...))
}

func wantRays(t *testing.T, what string, got, want []impl.Ray) {
	t.Helper()
	if !sameRays(got, want) {
		t.Errorf("%s: got %v, want %v", what, got, want)
	}
}

// beamArguments are all arguments of the functions of chapter 9.
type beamArguments struct {
	line         []impl.Element
	e            impl.Element
	r, other     impl.Ray
	rays         []impl.Ray
	m, n         []float32
	turns, count int64
	size, slope  float32
}

// beamWith takes one element and two rays from lists.
func beamWith(line []impl.Element, rays []impl.Ray, m, n []float32, turns, count int64, size, slope float32) beamArguments {
	a := beamArguments{line: line, rays: rays, m: m, n: n, turns: turns, count: count, size: size, slope: slope}
	if len(line) > 0 {
		a.e = line[0]
	}
	if len(rays) > 0 {
		a.r, a.other = rays[0], rays[len(rays)-1]
	}
	return a
}

// element is mostly valid, and such that rays stay near.
func (s source) element() impl.Element {
	e := impl.Element{Kind: s.Int63n(5), Number: float32(s.Float64()*4 - 2), Phase: float32(s.Float64()*2 - 1)}
	if e.Kind == impl.ElementAperture && s.Intn(30) > 0 {
		e.Number = float32(s.Float64() * 8)
	}
	return e
}

// line has drifts and lenses, and, if it is mixed, also all others.
func (s source) line(n int, mixed bool) []impl.Element {
	line := make([]impl.Element, n)
	for i := range line {
		line[i] = s.element()
		for !mixed && line[i].Kind > impl.ElementLens {
			line[i] = s.element()
		}
	}
	return line
}

func (s source) rays(n int) []impl.Ray {
	rays := make([]impl.Ray, n)
	for i := range rays {
		part := func() float32 { return float32(s.Float64()*4 - 2) }
		rays[i] = impl.Ray{At: complex(part(), part()), Phase: part(), Energy: part()}
	}
	return rays
}

// anyBeam has arguments some of which may be just beyond their limits.
func (s source) anyBeam() beamArguments {
	rays := s.rays(s.Intn(40))
	if s.Intn(8) == 0 {
		rays = s.rays(254 + s.Intn(4))
	}
	line := s.line(s.Intn(34), s.Intn(3) > 0)
	a := beamWith(line, rays, s.numbers(3+s.Intn(3)), s.numbers(4), s.Int63n(44)-2, s.Int63n(20)-1, s.number(), s.number())
	switch odd := oddNumbers(); s.Intn(8) {
	case 0:
		a.count, a.size, a.slope = 254+s.Int63n(4), s.finiteBits(), odd[s.Intn(len(odd))]
	case 1:
		for i := range a.m {
			a.m[i], a.n[i%4] = odd[s.Intn(len(odd))], odd[s.Intn(len(odd))]
		}
	case 2:
		for i := range a.line {
			a.line[i].Number = s.finiteBits()
		}
	case 3:
		for i := range a.rays {
			a.rays[i] = raysAs([]float32{odd[s.Intn(len(odd))], s.finiteBits(), odd[s.Intn(len(odd))], odd[s.Intn(len(odd))]})[0]
		}
	}
	return beamWith(a.line, a.rays, a.m, a.n, a.turns, a.count, a.size, a.slope)
}

// beamFunctions are all functions of chapter 9.
type beamFunctions struct {
	valid    func(line []impl.Element) bool
	same     func(a, b impl.Ray) bool
	element  func(e impl.Element, r impl.Ray) (impl.Ray, bool, bool)
	line     func(line []impl.Element, r impl.Ray) (impl.Ray, int64, bool)
	beam     func(line []impl.Element, rays []impl.Ray) ([]impl.Ray, []int64, bool)
	ring     func(line []impl.Element, rays []impl.Ray, turns int64) ([]impl.Ray, []int64, bool)
	back     func(line []impl.Element) ([]impl.Element, bool)
	matrix   func(line []impl.Element) ([]float32, bool)
	multiply func(a, b []float32) ([]float32, bool)
	det      func(m []float32) (float32, bool)
	trace    func(m []float32) (float32, bool)
	stable   func(line []impl.Element) bool
	tune     func(line []impl.Element) (float32, bool)
	centre   func(rays []impl.Ray) (complex64, bool)
	moments  func(rays []impl.Ray) (float32, float32, float32, bool)
	area     func(rays []impl.Ray) (float32, bool)
	widest   func(rays []impl.Ray) (int64, float32, bool)
	fill     func(count int64, size, slope float32) ([]impl.Ray, bool)
}

func beamsGiven() beamFunctions {
	return beamFunctions{
		impl.ValidLine, impl.SameRay, impl.PassElement, impl.PassLine, impl.PassBeam, impl.RunRing, impl.BackLine, impl.MatrixOf, impl.TimesMatrix,
		impl.DetOf, impl.TraceOf, impl.IsStable, impl.TuneOf, impl.CentreOf, impl.MomentsOf, impl.AreaOf, impl.WidestRay, impl.FillBeam,
	}
}

func beamsWanted() beamFunctions {
	return beamFunctions{
		validLineWanted, sameRayWanted, passElementWanted, passLineWanted, passBeamWanted, runRingWanted, backLineWanted, matrixOfLineWanted, multiplyWanted,
		detWanted, traceWanted, stableWanted, tuneWanted, beamCentreWanted, beamMomentsWanted, beamAreaWanted, widestWanted, fillBeamWanted,
	}
}

// wordsOf tells what the functions return: first the three that never fail, and
// then the others in the order of the chapter.
func (f beamFunctions) wordsOf(a beamArguments) string {
	passed, lost, one := f.element(a.e, a.r)
	end, index, two := f.line(a.line, a.r)
	uu, uv, vv, three := f.moments(a.rays)
	widest, away, four := f.widest(a.rays)
	filled, five := f.fill(a.count, a.size, a.slope)
	back, six := f.back(a.line)
	return strings.Join([]string{
		fmt.Sprint(f.valid(a.line), f.same(a.r, a.other), f.stable(a.line)),
		wordOfBoth(one, numbersOfRays(passed), oneIf(lost)), wordOfBoth(two, numbersOfRays(end), index),
		wordOfRays(f.beam(a.line, a.rays)), wordOfRays(f.ring(a.line, a.rays, a.turns)), wordOfElements(back, six), wordOfNumbers(f.matrix(a.line)),
		wordOfNumbers(f.multiply(a.m, a.n)), wordOfNumber(f.det(a.m)), wordOfNumber(f.trace(a.m)), wordOfNumber(f.tune(a.line)), wordOfComplex(f.centre(a.rays)),
		wordOf(three, uu, uv, vv), wordOfNumber(f.area(a.rays)), wordOfBoth(four, []float32{away}, widest), wordOfRays(filled, nil, five),
	}, ";")
}

func oneIf(yes bool) int64 {
	if yes {
		return 1
	}
	return 0
}

// wordOfBoth is the text of numbers and integers, and no where a function fails,
// as it must with zeros alone.
func wordOfBoth(ok bool, numbers []float32, integers ...int64) string {
	if !ok {
		return wordOf(slices.ContainsFunc(integers, func(n int64) bool { return n != 0 }), numbers...)
	}
	var words []string
	for _, x := range numbers {
		words = append(words, fmt.Sprintf("%08x", impl.BitsOf(x)))
	}
	for _, n := range integers {
		words = append(words, fmt.Sprint(n))
	}
	text := strings.Join(words, ",")
	if len(text) <= 60 {
		return text
	}
	n, _ := impl.CheckOf(0, text)
	return fmt.Sprintf("#%d,%s", n, words[len(words)-1])
}

func wordOfRays(rays []impl.Ray, lost []int64, ok bool) string {
	if !ok && len(rays)+len(lost) > 0 {
		return "no, but rays"
	}
	return wordOfBoth(ok, numbersOfRays(rays...), lost...)
}

func wordOfElements(line []impl.Element, ok bool) string {
	if !ok && len(line) > 0 {
		return "no, but elements"
	}
	numbers, kinds := numbersOfLine(line)
	return wordOfBoth(ok, numbers, kinds...)
}

func wantBeamWords(t *testing.T, a beamArguments, want string) {
	t.Helper()
	if got := beamsGiven().wordsOf(a); got != want {
		t.Errorf("the words of %s: got %s, want %s", shortened(a), got, want)
	}
}

// The functions below tell what the document tells, in other ways, each step as
// one on 64-bit numbers that is narrowed.

func validElementWanted(e impl.Element) bool {
	if !finite(e.Number) || !finite(e.Phase) {
		return false
	}
	return map[int64]bool{0: true, 1: e.Number < 0 || e.Number > 0, 2: !(e.Number < 0), 3: true, 4: true}[e.Kind]
}

func validLineWanted(line []impl.Element) bool {
	return len(line) <= 32 && !slices.ContainsFunc(line, func(e impl.Element) bool { return !validElementWanted(e) })
}

func sameRayWanted(a, b impl.Ray) bool {
	return sameParts(a.At, b.At) && sameBits(a.Phase, b.Phase) && sameBits(a.Energy, b.Energy)
}

func passElementWanted(e impl.Element, r impl.Ray) (impl.Ray, bool, bool) {
	x, y, phase, energy := real(r.At), imag(r.At), r.Phase, r.Energy
	lost := false
	switch {
	case !validElementWanted(e):
		return impl.Ray{}, false, false
	case e.Kind == 0:
		x, phase = plus(x, times(e.Number, y)), plus(phase, times(e.Number, energy))
	case e.Kind == 1:
		y = minus(y, over(x, e.Number))
	case e.Kind == 2:
		lost = x != x || x > e.Number || -x > e.Number
	case e.Kind == 3:
		y = plus(y, e.Number)
	case e.Kind == 4:
		energy = plus(energy, times(e.Number, impl.SineTurns(plus(phase, e.Phase))))
	}
	return impl.Ray{At: complex(x, y), Phase: phase, Energy: energy}, lost, true
}

func passLineWanted(line []impl.Element, r impl.Ray) (impl.Ray, int64, bool) {
	if !validLineWanted(line) {
		return impl.Ray{}, 0, false
	}
	for i, e := range line {
		after, lost, _ := passElementWanted(e, r)
		if lost {
			return r, int64(i), true
		}
		r = after
	}
	return r, -1, true
}

// passBeamWanted takes all rays through one element after another.
func passBeamWanted(line []impl.Element, rays []impl.Ray) ([]impl.Ray, []int64, bool) {
	if !validLineWanted(line) || len(rays) > 256 {
		return nil, nil, false
	}
	counts := make([]int64, len(line))
	for i, e := range line {
		var left []impl.Ray
		for _, r := range rays {
			after, lost, _ := passElementWanted(e, r)
			if lost {
				counts[i]++
			} else {
				left = append(left, after)
			}
		}
		rays = left
	}
	return rays, counts, true
}

func runRingWanted(line []impl.Element, rays []impl.Ray, turns int64) ([]impl.Ray, []int64, bool) {
	if turns < 0 || turns > 40 || !validLineWanted(line) || len(rays) > 256 {
		return nil, nil, false
	}
	var counts []int64
	for range turns {
		left, lost, _ := passBeamWanted(line, rays)
		sum := int64(0)
		for _, n := range lost {
			sum += n
		}
		rays, counts = left, append(counts, sum)
	}
	return rays, counts, true
}

func backLineWanted(line []impl.Element) ([]impl.Element, bool) {
	if !validLineWanted(line) || slices.ContainsFunc(line, func(e impl.Element) bool { return e.Kind == 4 }) {
		return nil, false
	}
	back := slices.Clone(line)
	slices.Reverse(back)
	for i, e := range back {
		if e.Kind != 2 {
			back[i].Number = fromBits(math.Float32bits(e.Number) ^ 0x80000000)
		}
	}
	return back, true
}

func multiplyWanted(a, b []float32) ([]float32, bool) {
	if len(a) != 4 || len(b) != 4 {
		return nil, false
	}
	product := make([]float32, 4)
	for i := range product {
		row, column := i/2, i%2
		product[i] = plus(times(a[2*row], b[column]), times(a[2*row+1], b[2+column]))
	}
	return product, true
}

func matrixOfLineWanted(line []impl.Element) ([]float32, bool) {
	if !validLineWanted(line) {
		return nil, false
	}
	m := []float32{1, 0, 0, 1}
	for _, e := range line {
		step := []float32{1, 0, 0, 1}
		if e.Kind == 0 {
			step[1] = e.Number
		}
		if e.Kind == 1 {
			step[2] = over(-1, e.Number)
		}
		m, _ = multiplyWanted(step, m)
	}
	return m, true
}

func detWanted(m []float32) (float32, bool) {
	if len(m) != 4 {
		return 0, false
	}
	return minus(times(m[0], m[3]), times(m[1], m[2])), true
}

func traceWanted(m []float32) (float32, bool) {
	if len(m) != 4 {
		return 0, false
	}
	return plus(m[0], m[3]), true
}

func stableWanted(line []impl.Element) bool {
	m, ok := matrixOfLineWanted(line)
	trace, _ := traceWanted(m)
	return ok && trace > -2 && trace < 2
}

func tuneWanted(line []impl.Element) (float32, bool) {
	if !stableWanted(line) {
		return 0, false
	}
	m, _ := matrixOfLineWanted(line)
	trace, _ := traceWanted(m)
	c := over(trace, 2)
	tune := impl.AngleTurns(float32(math.Sqrt(float64(minus(1, times(c, c))))), c)
	if m[1] < 0 {
		tune = times(tune, -1)
	}
	return tune, true
}

func beamCentreWanted(rays []impl.Ray) (complex64, bool) {
	if len(rays) < 1 || len(rays) > 256 {
		return 0, false
	}
	var places []complex64
	for _, r := range rays {
		places = append(places, r.At)
	}
	sum, _ := impl.SumComplex(places)
	n := float32(len(rays))
	return complex(over(real(sum), n), over(imag(sum), n)), true
}

// beamMomentsWanted makes lists of all differences first.
func beamMomentsWanted(rays []impl.Ray) (float32, float32, float32, bool) {
	centre, ok := beamCentreWanted(rays)
	if !ok {
		return 0, 0, 0, false
	}
	var us, vs []float32
	for _, r := range rays {
		us, vs = append(us, minus(real(r.At), real(centre))), append(vs, minus(imag(r.At), imag(centre)))
	}
	uu, _ := impl.DotNumbers(us, us)
	uv, _ := impl.DotNumbers(us, vs)
	vv, _ := impl.DotNumbers(vs, vs)
	n := float32(len(rays))
	return over(uu, n), over(uv, n), over(vv, n), true
}

func beamAreaWanted(rays []impl.Ray) (float32, bool) {
	uu, uv, vv, ok := beamMomentsWanted(rays)
	square := minus(times(uu, vv), times(uv, uv))
	if square > 0 {
		return float32(math.Sqrt(float64(square))), ok
	}
	return 0, ok
}

// widestWanted goes from the last ray to the first, so that an equally wide one
// before it wins.
func widestWanted(rays []impl.Ray) (int64, float32, bool) {
	index, most := -1, float32(0)
	for i := len(rays) - 1; i >= 0; i-- {
		if away := max(real(rays[i].At), -real(rays[i].At)); away >= most {
			index, most = i, away
		}
	}
	if index < 0 || len(rays) > 256 {
		return 0, 0, false
	}
	return int64(index), most, true
}

func fillBeamWanted(count int64, size, slope float32) ([]impl.Ray, bool) {
	if count < 1 || count > 256 || !finite(size) || !finite(slope) {
		return nil, false
	}
	var rays []impl.Ray
	for k := range count {
		q := over(float32(k), float32(count))
		rays = append(rays, impl.Ray{At: complex(times(size, impl.SineTurns(plus(q, 0.25))), times(slope, impl.SineTurns(q))), Phase: q})
	}
	return rays, true
}
