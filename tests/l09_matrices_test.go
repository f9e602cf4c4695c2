package tests

import (
	"fmt"
	"math"
	"slices"
	"testing"

	"loop.example/g01226/impl"
)

func unitMatrix() []float32 {
	return []float32{1, 0, 0, 1}
}

func TestTimesMatrix(t *testing.T) {
	const huge = math.MaxFloat32
	none, nan, inf, least := minusZero(), notANumber(), infinity(), fromBits(1)
	near := above(1)
	for _, c := range []struct{ a, b, want []float32 }{
		{[]float32{1, 2, 3, 4}, []float32{5, 6, 7, 8}, []float32{19, 22, 43, 50}},
		{[]float32{5, 6, 7, 8}, []float32{1, 2, 3, 4}, []float32{23, 34, 31, 46}},
		{unitMatrix(), []float32{5, 6, 7, 8}, []float32{5, 6, 7, 8}},
		{[]float32{5, 6, 7, 8}, unitMatrix(), []float32{5, 6, 7, 8}},
		// The second one comes first: a drift of 2, and then a lens of 2.
		{[]float32{1, 0, -0.5, 1}, []float32{1, 2, 0, 1}, []float32{1, 2, -0.5, 0}},
		{[]float32{1, 2, 0, 1}, []float32{1, 0, -0.5, 1}, []float32{0, 2, -0.5, 1}},
		{[]float32{0, 1, -1, 0}, []float32{0, 1, -1, 0}, []float32{-1, 0, none, -1}},
		// Each product is rounded, and both have signs, also where they are zeros.
		{[]float32{near, 1, 1, near}, []float32{near, 0, -above(near), 0}, []float32{0, 0, plus(near, -times(near, above(near))), 0}},
		{[]float32{1, near, near, 1}, []float32{-above(near), 0, near, 0}, []float32{0, 0, plus(-times(near, above(near)), near), 0}},
		{[]float32{0, 0, 0, 0}, []float32{1, -1, 1, -1}, []float32{0, none, 0, none}},
		{[]float32{none, none, none, 0}, []float32{1, 1, 1, -1}, []float32{none, 0, 0, none}},
		{unitMatrix(), []float32{none, none, none, none}, []float32{none, none, none, none}},
		{unitMatrix(), []float32{none, 1, 1, none}, []float32{0, 1, 1, 0}},
		{unitMatrix(), []float32{none, -1, -1, none}, []float32{none, -1, -1, none}},
		{[]float32{least, 0, 0, least}, []float32{0.5, 0.75, 1.5, -0.5}, []float32{0, least, 2 * least, 0}},
		{[]float32{16777216, 1, 1, 16777216}, []float32{1, 1, 1, 1}, []float32{16777216, 16777216, 16777216, 16777216}},
		// What is not finite.
		{unitMatrix(), []float32{1, 0, -inf, 1}, []float32{nan, 0, -inf, 1}},
		{unitMatrix(), []float32{nan, 0, 0, 1}, []float32{nan, 0, nan, 1}},
		{[]float32{1, 0, -inf, 1}, unitMatrix(), []float32{1, 0, -inf, nan}},
		{[]float32{huge, huge, -huge, huge}, []float32{2, -1, -2, -1}, []float32{nan, -inf, -inf, 0}},
		{[]float32{huge, huge, 1, 1}, []float32{1, -1, 1, 1}, []float32{inf, 0, 2, 0}},
	} {
		got, ok := impl.TimesMatrix(c.a, c.b)
		wantSolved(t, fmt.Sprintf("TimesMatrix(%v, %v)", c.a, c.b), got, ok, c.want)
	}
}

// The product makes of a ray what the second matrix makes first, and then the
// first one. With integers, nothing is rounded.
func TestProductsOfMatricesActOneAfterAnother(t *testing.T) {
	s := newSource()
	act := func(m []float32, x, y float32) (float32, float32) { return m[0]*x + m[1]*y, m[2]*x + m[3]*y }
	for range 500 {
		numbers := s.exactField(impl.Grid{Wide: 4, High: 4})
		a, b, c := numbers[:4], numbers[4:8], numbers[8:12]
		product, one := impl.TimesMatrix(a, b)
		x, y := act(b, numbers[12], numbers[13])
		x, y = act(a, x, y)
		left, up := act(product, numbers[12], numbers[13])
		wantEqual(t, fmt.Sprint("the product of ", a, b), one && x == left && y == up, true)
		after, _ := impl.TimesMatrix(b, c)
		first, _ := impl.TimesMatrix(product, c)
		last, two := impl.TimesMatrix(a, after)
		wantEqual(t, "TimesMatrix succeeds", two, true)
		wantNear(t, fmt.Sprint("the products of ", a, b, c), first, last, 0)
		dets := [3]float32{}
		for i, m := range [][]float32{a, b, product} {
			dets[i], _ = impl.DetOf(m)
		}
		wantNumber(t, fmt.Sprint("the determinant of the product of ", a, b), dets[2]+0, dets[0]*dets[1]+0)
	}
}

func TestDetAndTrace(t *testing.T) {
	const huge = math.MaxFloat32
	none, nan, inf := minusZero(), notANumber(), infinity()
	near := above(1)
	for _, c := range []struct {
		m          []float32
		det, trace float32
	}{
		{[]float32{1, 2, 3, 4}, -2, 5},
		{[]float32{4, 3, 2, 1}, -2, 5},
		{[]float32{2, 1, 1, -2}, -5, 0},
		{unitMatrix(), 1, 2},
		{[]float32{0, 0, 0, 0}, 0, 0},
		{[]float32{none, 0, 0, none}, 0, none},
		{[]float32{none, none, 0, 1}, 0, 1},
		{[]float32{none, 0, 0, 1}, none, 1},
		{[]float32{none, none, 0, 0}, 0, 0},
		// Products are rounded before one is taken from the other.
		{[]float32{near, 1, above(near), near}, 0, 2 * near},
		{[]float32{1, near, near, above(near)}, 0, plus(1, above(near))},
		{[]float32{0.1, 0.2, 0.3, 0.7}, minus(times(0.1, 0.7), times(0.2, 0.3)), plus(0.1, 0.7)},
		{[]float32{16777216, 1, 1, 1}, 16777215, 16777216},
		{[]float32{huge, huge, 2, 2}, nan, huge},
		{[]float32{huge, -1, 1, huge}, inf, inf},
		{[]float32{huge, 0, 0, -huge}, -inf, 0},
		{[]float32{inf, 0, 0, -inf}, -inf, nan},
		{[]float32{inf, 0, 0, 0}, nan, inf},
		{[]float32{1, inf, 0, 1}, nan, 2},
		{[]float32{1, nan, 1, 1}, nan, 2},
		{[]float32{nan, 1, 1, 1}, nan, nan},
		{[]float32{1, 1, 1, nan}, nan, nan},
		{[]float32{1, inf, -1, 1}, inf, 2},
	} {
		det, one := impl.DetOf(c.m)
		trace, two := impl.TraceOf(c.m)
		wantNumber(t, fmt.Sprint("DetOf ", c.m), det, c.det)
		wantNumber(t, fmt.Sprint("TraceOf ", c.m), trace, c.trace)
		wantEqual(t, fmt.Sprint("DetOf and TraceOf succeed for ", c.m), one && two, true)
	}
}

func TestMatricesHaveFourNumbers(t *testing.T) {
	for n := range 20 {
		m := repeated(float32(2), n)
		calls := []badCall{
			{fmt.Sprintf("DetOf %d", n), call1(impl.DetOf(m))}, {fmt.Sprintf("TraceOf %d", n), call1(impl.TraceOf(m))},
			{fmt.Sprintf("TimesMatrix of %d first", n), call1(impl.TimesMatrix(m, unitMatrix()))},
			{fmt.Sprintf("TimesMatrix of %d behind", n), call1(impl.TimesMatrix(unitMatrix(), m))},
			{fmt.Sprintf("TimesMatrix of %d twice", n), call1(impl.TimesMatrix(m, m))},
		}
		if n == 4 {
			wantSuccesses(t, calls)
		} else {
			wantFailures(t, calls)
		}
	}
	wantFailures(t, []badCall{
		{"DetOf nil", call1(impl.DetOf(nil))}, {"TraceOf nil", call1(impl.TraceOf(nil))}, {"TimesMatrix of nil", call1(impl.TimesMatrix(nil, nil))},
		{"TimesMatrix of nil and another", call1(impl.TimesMatrix(nil, unitMatrix()))}, {"TimesMatrix of another and nil", call1(impl.TimesMatrix(unitMatrix(), nil))},
		{"TimesMatrix of 3 and 5", call1(impl.TimesMatrix(repeated(float32(1), 3), repeated(float32(1), 5)))},
	})
}

func TestMatrixOf(t *testing.T) {
	const huge = math.MaxFloat32
	nan, inf, least := notANumber(), infinity(), fromBits(1)
	far := resonatorOf(huge, 0.25)
	for _, c := range []struct {
		line []impl.Element
		want []float32
	}{
		{nil, unitMatrix()},
		{[]impl.Element{driftOf(2)}, []float32{1, 2, 0, 1}},
		{[]impl.Element{driftOf(minusZero())}, unitMatrix()},
		{[]impl.Element{lensOf(2)}, []float32{1, 0, -0.5, 1}},
		{[]impl.Element{lensOf(-4)}, []float32{1, 0, 0.25, 1}},
		{[]impl.Element{lensOf(3)}, []float32{1, 0, over(-1, 3), 1}},
		{[]impl.Element{lensOf(huge)}, []float32{1, 0, over(-1, huge), 1}},
		{[]impl.Element{apertureOf(2)}, unitMatrix()},
		{[]impl.Element{kickOf(2)}, unitMatrix()},
		{[]impl.Element{far}, unitMatrix()},
		{[]impl.Element{{Kind: 0, Number: 2, Phase: 3}}, []float32{1, 2, 0, 1}},
		{[]impl.Element{driftOf(1), lensOf(2)}, []float32{1, 1, -0.5, 0.5}},
		{[]impl.Element{lensOf(2), driftOf(1)}, []float32{0.5, 1, -0.5, 1}},
		{[]impl.Element{driftOf(1), apertureOf(0), lensOf(2), kickOf(9), far}, []float32{1, 1, -0.5, 0.5}},
		{[]impl.Element{driftOf(1), driftOf(2), driftOf(-4)}, []float32{1, -1, 0, 1}},
		{[]impl.Element{lensOf(2), driftOf(1), lensOf(2)}, []float32{0.5, 1, -0.75, 0.5}},
		{repeated(driftOf(0.25), 32), []float32{1, 8, 0, 1}},
		{repeated(kickOf(1), 32), unitMatrix()},
		// Numbers that are not finite go on through elements that change nothing.
		{[]impl.Element{lensOf(least)}, []float32{1, 0, -inf, nan}},
		{[]impl.Element{lensOf(-least)}, []float32{1, 0, inf, nan}},
		{[]impl.Element{lensOf(least), kickOf(1)}, []float32{nan, nan, -inf, nan}},
		{[]impl.Element{driftOf(huge), driftOf(huge)}, []float32{1, inf, 0, 1}},
		{[]impl.Element{driftOf(huge), driftOf(huge), apertureOf(1)}, []float32{1, inf, 0, nan}},
		{[]impl.Element{driftOf(huge), driftOf(huge), far}, []float32{1, inf, 0, nan}},
		{[]impl.Element{driftOf(huge), lensOf(0.001)}, []float32{1, huge, over(-1, 0.001), -inf}},
	} {
		got, ok := impl.MatrixOf(c.line)
		wantSolved(t, fmt.Sprint("MatrixOf ", c.line), got, ok, c.want)
	}
}

// The matrix of a line is the product of those of its elements, one by one.
func TestMatricesOfLinesAreProducts(t *testing.T) {
	s := newSource()
	for range 500 {
		line := s.line(s.Intn(33), true)
		if !impl.ValidLine(line) {
			continue
		}
		want := unitMatrix()
		for _, e := range line {
			one, _ := impl.MatrixOf([]impl.Element{e})
			want, _ = impl.TimesMatrix(one, want)
		}
		got, ok := impl.MatrixOf(line)
		wantSolved(t, fmt.Sprint("MatrixOf ", line), got, ok, want)
	}
}

func TestExampleOfDeterminants(t *testing.T) {
	for _, focus := range []float32{1, 2, 4, -1, -2, 0.5, 8} {
		for _, other := range []float32{1, 2, -4, 0.25} {
			m, _ := impl.MatrixOf([]impl.Element{lensOf(focus), driftOf(1), lensOf(other)})
			det, ok := impl.DetOf(m)
			wantNumber(t, fmt.Sprintf("the determinant of a drift of 1 between lenses of %v and %v", focus, other), det, 1)
			wantEqual(t, "DetOf succeeds", ok, true)
		}
	}
}

func TestDeterminantsOfLinesAreOneNearly(t *testing.T) {
	s := newSource()
	for range 1000 {
		line := s.gentleLine(s.Intn(33), 0, 1, 2, 3, 4)
		m, _ := impl.MatrixOf(line)
		det, ok := impl.DetOf(m)
		wantEqual(t, "DetOf succeeds", ok, true)
		most := 1.0
		for _, x := range m {
			most = max(most, math.Abs(float64(x)))
		}
		wantNear(t, fmt.Sprint("the determinant of ", line), []float32{det}, []float32{1}, 1e-5*most*most)
	}
}

// The back line has the matrix that undoes that of the line, nearly.
func TestBackLinesHaveInverseMatricesNearly(t *testing.T) {
	s := newSource()
	for range 500 {
		line := s.gentleLine(s.Intn(20), 0, 1, 2, 3)
		back, _ := impl.BackLine(line)
		m, _ := impl.MatrixOf(line)
		n, _ := impl.MatrixOf(back)
		most := 1.0
		for _, x := range slices.Concat(m, n) {
			most = max(most, math.Abs(float64(x)))
		}
		product, _ := impl.TimesMatrix(n, m)
		wantNear(t, fmt.Sprint("the matrices of a line and its back line, ", line), product, unitMatrix(), 1e-5*most*most)
		other, _ := impl.TimesMatrix(m, n)
		wantNear(t, fmt.Sprint("the matrices of a back line and its line, ", line), other, unitMatrix(), 1e-5*most*most)
	}
}
