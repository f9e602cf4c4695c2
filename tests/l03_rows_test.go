package tests

import (
	"fmt"
	"math"
	"testing"

	"loop.example/g01226/impl"
)

// rowCase is the equations of a row.
type rowCase struct {
	lower, middle, upper, right []float32
}

func (c rowCase) solve() ([]float32, bool) {
	return impl.SolveRow(c.lower, c.middle, c.upper, c.right)
}

func wantRow(t *testing.T, c rowCase, want []float32) {
	t.Helper()
	got, ok := c.solve()
	wantSolved(t, fmt.Sprintf("SolveRow(%v)", c), got, ok, want)
}

func TestSolveRow(t *testing.T) {
	nan, huge, least := notANumber(), float32(math.MaxFloat32), fromBits(1)
	for _, c := range []struct {
		row  rowCase
		want []float32
	}{
		{rowCase{[]float32{0, 0}, []float32{2, 2}, []float32{0, 0}, []float32{2, 4}}, []float32{1, 2}},
		{rowCase{[]float32{0, 1}, []float32{2, 1}, []float32{1, 0}, []float32{4, 3}}, []float32{1, 2}},
		{rowCase{[]float32{0, 1, 2}, []float32{1, 3, 5}, []float32{2, 4, 0}, []float32{5, 19, 19}}, []float32{1, 2, 3}},
		// The first lower and the last upper do not count.
		{rowCase{[]float32{nan}, []float32{2}, []float32{nan}, []float32{3}}, []float32{1.5}},
		{rowCase{[]float32{infinity(), 1}, []float32{2, 1}, []float32{1, -infinity()}, []float32{4, 3}}, []float32{1, 2}},
		{rowCase{[]float32{nan, 0}, []float32{2, 2}, []float32{0, nan}, []float32{2, 4}}, []float32{1, 2}},
		// Nothing is taken from the first and the last number, not even a zero.
		{rowCase{[]float32{0}, []float32{2}, []float32{0}, []float32{minusZero()}}, []float32{minusZero()}},
		{rowCase{[]float32{0}, []float32{-2}, []float32{0}, []float32{0}}, []float32{minusZero()}},
		{rowCase{[]float32{0, minusZero()}, []float32{1, 1}, []float32{-1, 0}, []float32{minusZero(), minusZero()}}, []float32{minusZero(), minusZero()}},
		{rowCase{[]float32{0, 0}, []float32{1, 1}, []float32{-1, 0}, []float32{minusZero(), minusZero()}}, []float32{0, 0}},
		// A zero in the middle is no divisor where something is taken from it.
		{rowCase{[]float32{0, 1}, []float32{1, 0}, []float32{1, 0}, []float32{3, 1}}, []float32{1, 2}},
		{rowCase{[]float32{0, -1}, []float32{1, minusZero()}, []float32{1, 0}, []float32{3, -1}}, []float32{1, 2}},
		{rowCase{[]float32{0}, []float32{least}, []float32{0}, []float32{least}}, []float32{1}},
		{rowCase{[]float32{0}, []float32{-least}, []float32{0}, []float32{1}}, []float32{-infinity()}},
		{rowCase{[]float32{0}, []float32{huge}, []float32{0}, []float32{least}}, []float32{0}},
		// Divisors that are not finite are not zero.
		{rowCase{[]float32{0}, []float32{infinity()}, []float32{0}, []float32{-1}}, []float32{minusZero()}},
		{rowCase{[]float32{0}, []float32{nan}, []float32{0}, []float32{1}}, []float32{nan}},
		{rowCase{[]float32{0, 0}, []float32{nan, 2}, []float32{0, 0}, []float32{1, 2}}, []float32{nan, nan}},
		{rowCase{[]float32{0, 0}, []float32{2, nan}, []float32{0, 0}, []float32{1, 2}}, []float32{nan, nan}},
		{rowCase{[]float32{0, 0}, []float32{2, 2}, []float32{0, 0}, []float32{infinity(), 2}}, []float32{nan, nan}},
		{rowCase{[]float32{0, 0}, []float32{2, 2}, []float32{0, 0}, []float32{2, infinity()}}, []float32{nan, infinity()}},
		{rowCase{[]float32{0, 0}, []float32{least, 1}, []float32{1, 0}, []float32{1, 1}}, []float32{nan, nan}},
		// Products are rounded before they are taken away.
		{rowCase{[]float32{0, 1 + 0x1p-12}, []float32{1, 2 + 0x1p-11}, []float32{1 + 0x1p-12, 0}, []float32{0, 1}}, []float32{-1 - 0x1p-12, 1}},
	} {
		wantRow(t, c.row, c.want)
	}
}

// Divisors that are zero, of both signs, first, in the middle and last, as they
// are given or as they become.
func TestSolveRowDividesByNoZero(t *testing.T) {
	for _, zero := range []float32{0, minusZero()} {
		for _, n := range []int{1, 2, 3, 10, 256} {
			for _, at := range []int{0, n / 2, n - 1} {
				c := rowCase{make([]float32, n), repeated(float32(2), n), repeated(float32(1), n), repeated(float32(1), n)}
				c.middle[at] = zero
				wantFailures(t, []badCall{{fmt.Sprintf("SolveRow of %d with %v at %d", n, zero, at), call1(c.solve())}})
				if at > 0 {
					c.middle[at], c.lower[at] = 1.5, 3
					wantFailures(t, []badCall{{fmt.Sprintf("SolveRow of %d that becomes 0 at %d", n, at), call1(c.solve())}})
					c.middle[at], c.lower[at] = -1.5, -3
					wantFailures(t, []badCall{{fmt.Sprintf("SolveRow of %d that becomes 0 from below at %d", n, at), call1(c.solve())}})
				}
			}
		}
	}
	// Zeros also come from rounding, and a right side of zeros is no help.
	for _, c := range []rowCase{
		{[]float32{0, 1 + 0x1p-12}, []float32{1, 1 + 0x1p-11}, []float32{1 + 0x1p-12, 0}, []float32{1, 1}},
		{[]float32{0, minusZero()}, []float32{1, minusZero()}, []float32{-1, 0}, []float32{1, 1}},
		{[]float32{0}, []float32{0}, []float32{0}, []float32{0}},
		{[]float32{0, 1}, []float32{1, 1}, []float32{1, 0}, []float32{0, 0}},
		{[]float32{0}, []float32{0}, []float32{0}, []float32{notANumber()}},
		{[]float32{0, 0}, []float32{notANumber(), 0}, []float32{0, 0}, []float32{1, 1}},
	} {
		got, ok := c.solve()
		_, wanted := rowWanted(c.lower, c.middle, c.upper, c.right)
		wantEqual(t, fmt.Sprintf("SolveRow(%v) succeeds", c), ok, wanted)
		wantEqual(t, fmt.Sprintf("SolveRow(%v) has numbers", c), len(got) > 0, wanted)
	}
}

func TestSolveRowHasLimits(t *testing.T) {
	for _, n := range []int{1, 2, 255, 256} {
		twos := repeated(float32(2), n)
		wantRow(t, rowCase{make([]float32, n), twos, make([]float32, n), twos}, repeated(float32(1), n))
	}
	for _, n := range []int{257, 258, 1000, 0} {
		twos := repeated(float32(2), n)
		wantFailures(t, []badCall{{fmt.Sprintf("SolveRow of %d", n), call1(impl.SolveRow(make([]float32, n), twos, make([]float32, n), twos))}})
	}
	wantFailures(t, []badCall{{"SolveRow of nil", call1(impl.SolveRow(nil, nil, nil, nil))}})
}

// The numbers are such that no divisor becomes zero: only the lengths are wrong.
func TestSolveRowTakesListsOfOneLength(t *testing.T) {
	for _, n := range []int{1, 2, 5, 256} {
		for _, other := range []int{0, n - 1, n + 1, 2 * n} {
			for i := range 4 {
				var lists, turned [4][]float32
				for k, x := range []float32{0.5, 2, 0.5, 1} {
					lists[k], turned[k] = repeated(x, n), repeated(x, other)
				}
				lists[i], turned[i] = turned[i], lists[i]
				what := fmt.Sprintf("SolveRow of %d, list %d of %d", n, i, other)
				wantFailures(t, []badCall{
					{what, call1(impl.SolveRow(lists[0], lists[1], lists[2], lists[3]))},
					{what + " turned", call1(impl.SolveRow(turned[0], turned[1], turned[2], turned[3]))},
				})
			}
		}
	}
}

func TestSolveRowAgainstOtherNumbers(t *testing.T) {
	s, failed := newSource(), 0
	for range 3000 {
		c := rowCase{s.numbers(1 + s.Intn(20)), nil, nil, nil}
		n := len(c.lower)
		c.middle, c.upper, c.right = s.numbers(n), s.numbers(n), s.numbers(n)
		for range s.Intn(4) {
			lists := [][]float32{c.lower, c.middle, c.upper, c.right}
			lists[s.Intn(4)][s.Intn(n)] = oddNumbers()[s.Intn(len(oddNumbers()))]
		}
		want, ok := rowWanted(c.lower, c.middle, c.upper, c.right)
		if ok {
			wantRow(t, c, want)
			continue
		}
		failed++
		wantFailures(t, []badCall{{fmt.Sprintf("SolveRow(%v)", c), call1(c.solve())}})
	}
	if failed < 10 {
		t.Errorf("only %d of the rows had a divisor that is zero", failed)
	}
}

func (s source) numbers(n int) []float32 {
	list := make([]float32, n)
	for i := range list {
		list[i] = s.number()
	}
	return list
}

// The numbers that SolveRow returns solve the equations, nearly.
func TestRowsAreSolvedNearly(t *testing.T) {
	s := newSource()
	for _, n := range []int{1, 2, 3, 16, 100, 256} {
		c := rowCase{make([]float32, n), make([]float32, n), make([]float32, n), make([]float32, n)}
		for k := range n {
			c.lower[k], c.upper[k], c.right[k] = s.Float32()-0.5, s.Float32()-0.5, s.Float32()*20-10
			c.middle[k] = 2 + s.Float32()
		}
		x, ok := c.solve()
		wantEqual(t, fmt.Sprintf("SolveRow of %d succeeds", n), ok && len(x) == n, true)
		for k := range x {
			sum := float64(c.middle[k]) * float64(x[k])
			if k > 0 {
				sum += float64(c.lower[k]) * float64(x[k-1])
			}
			if k+1 < n {
				sum += float64(c.upper[k]) * float64(x[k+1])
			}
			wantNear(t, fmt.Sprintf("equation %d of %d", k, n), []float32{float32(sum)}, c.right[k:k+1], 1e-4)
		}
	}
}

func wantRing(t *testing.T, right, want []float32) {
	t.Helper()
	got, ok := impl.SolveRing(right)
	wantSolved(t, fmt.Sprintf("SolveRing(%v)", right), got, ok, want)
}

func TestSolveRingKeepsZeros(t *testing.T) {
	for _, n := range []int{3, 4, 16, 255, 256} {
		wantRing(t, make([]float32, n), make([]float32, n))
		wantRing(t, repeated(notANumber(), n), repeated(notANumber(), n))
	}
	for _, n := range []int{3, 4, 16} {
		wantRing(t, repeated(minusZero(), n), repeated(minusZero(), n))
	}
	// In the middle of long rings, what the cut has changed is too small for a sign.
	long, _ := impl.SolveRing(repeated(minusZero(), 256))
	wantField(t, "SolveRing of 256 -0", long, ringWanted(repeated(minusZero(), 256)))
	wantNumber(t, "SolveRing of 256 -0, the first one", long[0], minusZero())
	wantNumber(t, "SolveRing of 256 -0, in the middle", long[128], 0)
}

func TestSolveRingHasLimits(t *testing.T) {
	for _, n := range []int{0, 1, 2, 257, 258, 1000} {
		wantFailures(t, []badCall{{fmt.Sprintf("SolveRing of %d", n), call1(impl.SolveRing(repeated(float32(2), n)))}})
	}
	wantFailures(t, []badCall{{"SolveRing of nil", call1(impl.SolveRing(nil))}})
}

func TestSolveRingAgainstOtherNumbers(t *testing.T) {
	s := newSource()
	for n := 3; n <= 256; n++ {
		list := s.numbers(n)
		wantRing(t, list, ringWanted(list))
		for range 5 {
			list[s.Intn(n)] = oddNumbers()[s.Intn(len(oddNumbers()))]
			wantRing(t, list, ringWanted(list))
		}
	}
}

// Four of each number, less those before and behind it, are nearly the right side.
func TestRingsAreSolvedNearly(t *testing.T) {
	s := newSource()
	for n := 3; n <= 256; n++ {
		right := make([]float32, n)
		for k := range right {
			right[k] = float32(s.Intn(64) - 32)
		}
		x, ok := impl.SolveRing(right)
		wantEqual(t, fmt.Sprintf("SolveRing of %d succeeds", n), ok && len(x) == n, true)
		var sums []float32
		for k := range x {
			sums = append(sums, float32(4*float64(x[k])-float64(x[(k+n-1)%n])-float64(x[(k+1)%n])))
		}
		wantNear(t, fmt.Sprintf("SolveRing(%v)", right), sums, right, 1e-4)
		ones, _ := impl.SolveRing(repeated(float32(2), n))
		wantNear(t, fmt.Sprintf("SolveRing of %d twos", n), ones, repeated(float32(1), n), 1e-6)
	}
}

func TestRowsAgainstASeparateCalculation(t *testing.T) {
	middle := patterned(9, 2)
	for k := range middle {
		middle[k] += 40
	}
	row, ok := impl.SolveRow(patterned(9, 1), middle, patterned(9, 3), patterned(9, 4))
	wantText(t, "SolveRow", row, ok, "bee8bc5a,be3a387e,3e58fb43,be149b68,3e6e93e9,3da7e0fe,bc644fe8,3b8902c3,3e0900e2")
	three, ok := impl.SolveRing(patterned(3, 1))
	wantText(t, "SolveRing of 3", three, ok, "c0a11112,c06ccccc,bfb77777")
	four, ok := impl.SolveRing(patterned(4, 1))
	wantText(t, "SolveRing of 4", four, ok, "c0c55555,c0815555,bfd55556,c0b40000")
	nine, ok := impl.SolveRing(patterned(9, 1))
	wantText(t, "SolveRing of 9", nine, ok, "c0a2651c,c0689d23,bf90aa06,c078b6e8,3e812083,bf8d71ad,c015b213,c0100f74,bfd5177f")
	swept, ok := impl.SweepRows(impl.Grid{Wide: 5, High: 4}, patterned(20, 2), patterned(20, 1))
	wantText(t, "SweepRows", swept, ok, "bfbd064a,bea3418c,bf9fd4e2,3f9a8deb,40a97214,bf48cd5e,3ff185f1,3f08bfc1,3fdb8a2f,408abdab,3fea1fa4,4101a8a1,40253fcc,40925aa0,403858a2,406891af,40cbac9d,3fcb982d,40bc2fd0,409674b2")
}

func TestSweepRows(t *testing.T) {
	s := newSource()
	for range 20 {
		for _, g := range allGrids() {
			v, charge := s.anyField(g), s.anyField(g)
			got, ok := impl.SweepRows(g, v, charge)
			wantSolved(t, inGrid("SweepRows", g, v, charge), got, ok, rowsWanted(g, v, charge))
		}
	}
}

func TestSweepRowsOfNoDifferences(t *testing.T) {
	for _, g := range allGrids() {
		points := int(g.Wide * g.High)
		got, ok := impl.SweepRows(g, make([]float32, points), repeated(float32(1), points))
		wantSolved(t, inGrid("SweepRows", g), got, ok, make([]float32, points))
		got, ok = impl.SweepRows(g, repeated(minusZero(), points), repeated(minusZero(), points))
		wantSolved(t, inGrid("SweepRows of -0", g), got, ok, repeated(minusZero(), points))
	}
}

// Each row is solved with the one before it as it has become; so the last one
// stays solved, nearly.
func TestSweepRowsSolvesTheLastRow(t *testing.T) {
	s := newSource()
	for _, g := range allGrids() {
		v, charge := s.exactField(g), s.exactField(g)
		swept, _ := impl.SweepRows(g, v, charge)
		laplace, _ := impl.LaplaceOf(g, swept)
		level, _ := impl.WithoutMean(g, charge)
		last := int(g.Wide * (g.High - 1))
		wantNear(t, inGrid("the last row", g), laplace[last:], level[last:], 1e-4)
		first, _ := impl.SolveRing(rowsBeside(g, v, level))
		wantField(t, inGrid("the first row", g), swept[:g.Wide], first)
	}
}

// rowsBeside is what the first row is solved for.
func rowsBeside(g impl.Grid, v, level []float32) []float32 {
	var right []float32
	for x := range int(g.Wide) {
		right = append(right, level[x]+v[around(g, x, -1)]+v[around(g, x, 1)])
	}
	return right
}

// Sweeps of rows solve potentials as sweeps of colours do, nearly.
func TestSweepsOfRowsSolvePotentialsNearly(t *testing.T) {
	s := newSource()
	for _, g := range allGrids() {
		v, charge := make([]float32, g.Wide*g.High), s.exactField(g)
		first, _ := impl.ResidualOf(g, v, charge)
		for range 60 {
			v, _ = impl.SweepRows(g, v, charge)
		}
		last, _ := impl.ResidualOf(g, v, charge)
		if !(last <= first/500) {
			t.Errorf("%s: the residual is %v of %v", inGrid("SweepRows", g), last, first)
		}
	}
}
