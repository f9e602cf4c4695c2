package tests

import (
	"fmt"
	"math"
	"slices"
	"strings"
	"testing"

	"loop.example/g01226/impl"
)

func bitsOfRays(rays []impl.Ray) string {
	return bitsOfList(numbersOfRays(rays...))
}

func bitsOfEnd(r impl.Ray, index int64, ok bool) string {
	return fmt.Sprint(bitsOfRays([]impl.Ray{r}), index, ok)
}

func bitsOfPassed(rays []impl.Ray, lost []int64, ok bool) string {
	return fmt.Sprint(bitsOfRays(rays), lost, ok)
}

func bitsOfLine(line []impl.Element, ok bool) string {
	numbers, kinds := numbersOfLine(line)
	return fmt.Sprint(bitsOfList(numbers), kinds, ok)
}

// beamCalls tell what all functions of chapter 9 return.
func beamCalls(a beamArguments) string {
	passed, lost, one := impl.PassElement(a.e, a.r)
	uu, uv, vv, two := impl.MomentsOf(a.rays)
	filled, three := impl.FillBeam(a.count, a.size, a.slope)
	return strings.Join([]string{
		fmt.Sprint(impl.ValidLine(a.line), impl.SameRay(a.r, a.other), impl.SameRay(a.other, a.r), impl.IsStable(a.line)),
		bitsOfEnd(passed, oneIf(lost), one), bitsOfEnd(impl.PassLine(a.line, a.r)), bitsOfPassed(impl.PassBeam(a.line, a.rays)), bitsOfPassed(impl.RunRing(a.line, a.rays, a.turns)),
		bitsOfLine(impl.BackLine(a.line)), bitsOfResult(impl.MatrixOf(a.line)), bitsOfResult(impl.TimesMatrix(a.m, a.n)), bitsOfNumber(impl.DetOf(a.m)), bitsOfNumber(impl.TraceOf(a.m)),
		bitsOfNumber(impl.TuneOf(a.line)), bitsOfParts(impl.CentreOf(a.rays)), bitsOfResult([]float32{uu, uv, vv}, two), bitsOfNumber(impl.AreaOf(a.rays)),
		bitsOfIndex(impl.WidestRay(a.rays)), bitsOfPassed(filled, nil, three),
	}, ";")
}

// sameBeamAgain makes copies of what has memory.
func sameBeamAgain(a beamArguments) beamArguments {
	a.line, a.rays, a.m, a.n = slices.Clone(a.line), slices.Clone(a.rays), slices.Clone(a.m), slices.Clone(a.n)
	return a
}

// oddBeams are valid and invalid arguments of many sizes.
func oddBeams() []beamArguments {
	s, odd := newSource(), oddNumbers()
	var all []beamArguments
	for i, line := range append(invalidLines(), nil, repeated(driftOf(1), 32), edgeLine(2, 1), edgeLine(4, 1)) {
		numbers := slices.Concat(odd, odd)[i%len(odd):]
		rays := raysAs(numbers[:len(odd)/4*4])[i%5:]
		all = append(all, beamWith(line, rays, numbers[:i%7], numbers[4:8], int64(i%44-2), int64(i%300-1), numbers[1], numbers[2]))
	}
	for range 600 {
		all = append(all, s.anyBeam())
	}
	return all
}

// keptBeam are the wholes of lists with room behind them.
type keptBeam struct {
	line []impl.Element
	rays []impl.Ray
	m, n []float32
}

func keepBeam(a *beamArguments) keptBeam {
	var k keptBeam
	a.line, k.line = withRoom(a.line, impl.Element{Kind: 77, Number: 77, Phase: 77})
	a.rays, k.rays = withRoom(a.rays, impl.Ray{At: complex(78, 78), Phase: 78, Energy: 78})
	a.m, k.m = withRoom(a.m, 79)
	a.n, k.n = withRoom(a.n, 80)
	return k
}

func (k keptBeam) clone() keptBeam {
	return keptBeam{slices.Clone(k.line), slices.Clone(k.rays), slices.Clone(k.m), slices.Clone(k.n)}
}

func (k keptBeam) equals(other keptBeam) bool {
	numbers, kinds := numbersOfLine(k.line)
	otherNumbers, otherKinds := numbersOfLine(other.line)
	return equalBits(numbers, otherNumbers) && slices.Equal(kinds, otherKinds) && equalBits(numbersOfRays(k.rays...), numbersOfRays(other.rays...)) &&
		equalBits(k.m, other.m) && equalBits(k.n, other.n)
}

// Every function returns the same for the same numbers, valid or not, in any
// order of calls, and leaves all that it gets as it is.
func TestArgumentsOfBeamsStayUnchanged(t *testing.T) {
	all := oddBeams()
	var first []string
	var wholes, copies []keptBeam
	for i := range all {
		whole := keepBeam(&all[i])
		wholes, copies = append(wholes, whole), append(copies, whole.clone())
		first = append(first, beamCalls(all[i]))
	}
	for i := len(all) - 1; i >= 0; i-- {
		wantEqual(t, shortened("a second call with", all[i]), beamCalls(sameBeamAgain(all[i])), first[i])
	}
	for i := range wholes {
		if !wholes[i].equals(copies[i]) {
			t.Fatalf("an argument has been changed: %s", shortened(copies[i]))
		}
	}
}

// One list may come as several arguments, also as parts of one memory.
func TestMatricesMayShareMemory(t *testing.T) {
	s := newSource()
	for range 200 {
		numbers := s.numbers(12)
		kept := slices.Clone(numbers)
		for i := range 9 {
			for k := range 9 {
				got, ok := impl.TimesMatrix(numbers[i:i+4], numbers[k:k+4])
				want, _ := multiplyWanted(kept[i:i+4], kept[k:k+4])
				wantSolved(t, "TimesMatrix of parts of a list", got, ok, want)
			}
		}
		if !equalBits(numbers, kept) {
			t.Fatal("a matrix has been changed")
		}
	}
}

// resultsOfBeams are all lists that functions return, also those of calls that
// change nothing.
func resultsOfBeams(a beamArguments) (rays [][]impl.Ray, counts [][]int64, lines [][]impl.Element, matrices [][]float32) {
	keep := func(list []impl.Ray, lost []int64, ok bool) {
		rays = append(rays, list)
		if len(lost) > 0 {
			counts = append(counts, lost)
		}
	}
	keepRays := func(list []impl.Ray, ok bool) { rays = append(rays, list) }
	keepLine := func(line []impl.Element, ok bool) { lines = append(lines, line) }
	keepMatrix := func(m []float32, ok bool) { matrices = append(matrices, m) }
	for range 2 {
		keep(impl.PassBeam(a.line, a.rays))
		keep(impl.PassBeam(nil, a.rays))
		keep(impl.PassBeam([]impl.Element{apertureOf(1e9)}, a.rays))
		keep(impl.RunRing(a.line, a.rays, 0))
		keep(impl.RunRing(nil, a.rays, 3))
		keep(impl.RunRing(a.line, a.rays, 1))
		keep(impl.RunRing([]impl.Element{apertureOf(1e9)}, a.rays, 40))
		keepRays(impl.FillBeam(a.count, a.size, a.slope))
		keepRays(impl.FillBeam(1, 0, 0))
		keepLine(impl.BackLine(a.line))
		keepLine(impl.BackLine([]impl.Element{apertureOf(1)}))
		keepMatrix(impl.MatrixOf(a.line))
		keepMatrix(impl.MatrixOf(nil))
		keepMatrix(impl.TimesMatrix(a.m, a.n))
		keepMatrix(impl.TimesMatrix(a.m, unitMatrix()))
		keepMatrix(impl.TimesMatrix(unitMatrix(), a.n))
	}
	return rays, counts, lines, matrices
}

// Results that have been overwritten, also behind their ends, change neither
// arguments nor each other nor later results.
func TestResultsOfBeamsAreNew(t *testing.T) {
	s := newSource()
	for _, n := range []int{1, 3, 32} {
		a := beamWith(s.gentleLine(n, 0, 1, 2, 3), s.rays(5*n), s.numbers(4), s.numbers(4), 2, 17, 3, 0.5)
		again, before := sameBeamAgain(a), beamCalls(a)
		rays, counts, lines, matrices := resultsOfBeams(a)
		wantApart(t, "rays", rays, impl.Ray{At: 9, Phase: 9, Energy: 9}, bitsOfRays)
		wantApart(t, "counts", counts, 9, func(list []int64) string { return fmt.Sprint(list) })
		wantApart(t, "lines", lines, impl.Element{Kind: 9, Number: 9, Phase: 9}, func(line []impl.Element) string { return bitsOfLine(line, true) })
		wantApart(t, "matrices", matrices, 9, bitsOfList)
		wantEqual(t, "calls after results have been overwritten", beamCalls(a), before)
		wantEqual(t, "calls with copies after results have been overwritten", beamCalls(again), before)
	}
}

// Nil and empty lists are the same value.
func TestNilAndEmptyAreEqualForBeams(t *testing.T) {
	for _, turns := range []int64{-1, 0, 1, 40, 41} {
		none := beamArguments{turns: turns, count: turns}
		empty := none
		empty.line, empty.rays, empty.m, empty.n = []impl.Element{}, []impl.Ray{}, []float32{}, []float32{}
		wantEqual(t, "calls without elements and rays", beamCalls(none), beamCalls(empty))
		none.line = []impl.Element{driftOf(1)}
		empty.line = none.line
		wantEqual(t, "calls without rays", beamCalls(none), beamCalls(empty))
	}
}

// A not-a-number with other bits is an equal argument.
func TestAllNotANumbersAreOneArgumentOfBeams(t *testing.T) {
	line := []impl.Element{driftOf(1), lensOf(2), resonatorOf(1, 0.25), apertureOf(30), kickOf(1)}
	for _, bits := range []uint32{0x7f800001, 0xffc00000, 0xffffffff} {
		for i := range 32 {
			var calls []string
			for _, nan := range []float32{fromBits(0x7fc00000), fromBits(bits)} {
				numbers := patterned(32, 1)
				numbers[i] = nan
				elements := slices.Clone(line)
				elements[i%5].Number = numbers[i]
				calls = append(calls, beamCalls(beamWith(line, raysAs(numbers[:20]), numbers[20:24], numbers[24:28], 3, 4, numbers[28], numbers[29])))
				calls = append(calls, beamCalls(beamWith(elements, raysAs(numbers[4:28]), numbers[:4], numbers[28:], 3, 4, numbers[30], numbers[31])))
			}
			wantEqual(t, fmt.Sprintf("results with another not-a-number as number %d", i), calls[2]+calls[3], calls[0]+calls[1])
		}
	}
}

// Calls that run at once, with the same arguments, return what one call returns.
func TestBeamsAtOnceAreEqual(t *testing.T) {
	s := newSource()
	a := beamWith(s.gentleLine(32, 0, 1, 2, 3), s.rays(256), s.numbers(4), s.numbers(4), 40, 256, 1, 2)
	want := beamCalls(a)
	calls := make(chan string)
	for range 32 {
		go func() { calls <- beamCalls(a) }()
	}
	for range 32 {
		wantEqual(t, "beams at once", <-calls, want)
	}
}

// Numbers of turns and rays, and kinds, far beyond all limits.
func TestFarNumbersOfBeams(t *testing.T) {
	s := newSource()
	for _, far := range []int64{1 << 31, 1 << 32, 1<<32 + 1, 1 << 62, math.MaxInt64, math.MinInt64, -1 << 32} {
		for i := range 3 {
			a := beamWith(s.line(5, true), s.rays(7), s.numbers(4), s.numbers(4), 3, 4, 1, 2)
			*[]*int64{&a.turns, &a.count, &a.line[2].Kind}[i] = far
			wantEqual(t, fmt.Sprint("calls with far numbers ", i, far), beamCalls(sameBeamAgain(a)), beamCalls(a))
			wantBeamWords(t, a, beamsWanted().wordsOf(a))
		}
	}
}
