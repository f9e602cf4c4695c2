package tests

import (
	"fmt"
	"math"
	"testing"

	"loop.example/g01226/impl"
)

func wantComplexes(t *testing.T, what string, got []complex64, ok bool, want []complex64) {
	t.Helper()
	wantEqual(t, what+" succeeds", ok, true)
	if !sameComplexes(got, want) {
		t.Errorf("%s: got %v, want %v", what, got, want)
	}
}

// wantNearSpectrum allows for a distance of both parts.
func wantNearSpectrum(t *testing.T, what string, got, want []complex64, most float64) {
	t.Helper()
	wantNear(t, what, partsOf(got...), partsOf(want...), most)
}

func TestExampleOfSpectra(t *testing.T) {
	got, ok := impl.SpectrumOf([]float32{1, 0, 0, 0})
	wantComplexes(t, "SpectrumOf 1, 0, 0, 0", got, ok, []complex64{1, 1, 1, 1})
	list, ok := impl.ListOf([]complex64{1, 1, 1, 1})
	wantSolved(t, "ListOf 1, 1, 1, 1", list, ok, []float32{1, 0, 0, 0})
}

func TestRowOf(t *testing.T) {
	for _, g := range allGrids() {
		field := numbered(g)
		for y := range g.High {
			got, ok := impl.RowOf(g, field, y)
			wantSolved(t, inGrid("RowOf", g, y), got, ok, field[y*g.Wide:y*g.Wide+g.Wide])
		}
		for _, y := range []int64{-1, -g.High, g.High, g.High + 1, 16, 1 << 40, math.MaxInt64, math.MinInt64} {
			wantFailures(t, []badCall{{inGrid("RowOf", g, y), call1(impl.RowOf(g, field, y))}})
		}
	}
}

// Numbers of rows stay as they are.
func TestRowsOfAnyNumbers(t *testing.T) {
	g := impl.Grid{Wide: 9, High: 4}
	odd := oddNumbers()
	for y := range g.High {
		got, ok := impl.RowOf(g, odd, y)
		wantSolved(t, inGrid("RowOf any numbers", g, y), got, ok, odd[9*y:9*y+9])
	}
}

func TestMeanRow(t *testing.T) {
	const huge = math.MaxFloat32
	for _, c := range []struct {
		column []float32
		want   float32
	}{
		{[]float32{1, 2, 3, 4}, 2.5},
		{[]float32{7, 0, 0, 0, 0}, 1.4},
		{[]float32{1, 1, 1, 1, 1, 1, 1}, 1},
		// The sum is divided, not multiplied by a rounded quotient.
		{[]float32{5, 0, 0, 0, 0, 0, 0}, over(5, 7)},
		{[]float32{3, 0, 0, 0, 0, 0, 0, 0, 0, 0, 0}, over(3, 11)},
		{[]float32{1, 0, 0, 0, 0, 0, 0, 0, 0, 0, 0, 0, 0}, over(1, 13)},
		// Sums are made in order, from +0 on.
		{[]float32{16777216, 1, 1, 0}, 4194304},
		{[]float32{1, 1, 16777216, 0}, 4194304.5},
		{[]float32{1e30, 4, -1e30, 0}, 0},
		{[]float32{1e30, -1e30, 4, 0}, 1},
		{repeated(minusZero(), 5), 0},
		{[]float32{1, -1, minusZero(), minusZero()}, 0},
		// Sums are divided in the end.
		{[]float32{huge, huge, -huge, -huge}, infinity()},
		{[]float32{huge, -huge, huge, -huge}, 0},
		{[]float32{fromBits(1), 0, 0, 0}, 0},
		{[]float32{fromBits(3), 0, 0, 0}, fromBits(1)},
		{[]float32{-fromBits(1), 0, 0, 0}, minusZero()},
		{[]float32{infinity(), 1, 1, 1}, infinity()},
		{[]float32{1, infinity(), 1, -infinity()}, notANumber()},
		{[]float32{1, 1, 1, notANumber()}, notANumber()},
	} {
		for wide := int64(4); wide <= 16; wide++ {
			g := impl.Grid{Wide: wide, High: int64(len(c.column))}
			for x := range wide {
				field, want := make([]float32, wide*g.High), make([]float32, wide)
				for y, n := range c.column {
					field[x+wide*int64(y)] = n
				}
				want[x] = c.want
				got, ok := impl.MeanRow(g, field)
				wantSolved(t, inGrid("MeanRow", g, x, c.column), got, ok, want)
			}
		}
	}
}

// The spectrum of one number is this number, with a part that is nothing of it.
func TestSpectraOfOneNumber(t *testing.T) {
	const huge = math.MaxFloat32
	for _, c := range []struct {
		x    float32
		want complex64
	}{
		{3, 3}, {-2.5, -2.5}, {0, 0}, {minusZero(), 0}, {huge, huge}, {-huge, -huge}, {fromBits(1), fromRealBits(1)}, {-fromBits(1), complex(-fromBits(1), 0)},
		{infinity(), complex(infinity(), notANumber())}, {-infinity(), complex(-infinity(), notANumber())}, {notANumber(), complex(notANumber(), notANumber())},
	} {
		got, ok := impl.SpectrumOf([]float32{c.x})
		wantComplexes(t, fmt.Sprint("SpectrumOf ", c.x), got, ok, []complex64{c.want})
	}
	for _, c := range []struct {
		x    complex64
		want float32
	}{
		{3, 3}, {complex(3, 4), 3}, {complex(-2.5, -7), -2.5}, {0, 0}, {complex(minusZero(), minusZero()), 0}, {complex(0, 5), 0}, {complex(huge, -huge), huge},
		{complex(-fromBits(1), 1), -fromBits(1)}, {complex(infinity(), 2), infinity()}, {complex(2, infinity()), notANumber()}, {complex(1, notANumber()), notANumber()}, {complex(notANumber(), 1), notANumber()},
	} {
		got, ok := impl.ListOf([]complex64{c.x})
		wantSolved(t, fmt.Sprint("ListOf ", c.x), got, ok, []float32{c.want})
	}
}

func TestSpectraOfFewNumbers(t *testing.T) {
	half := fromBits(0x3f3504f3)
	for _, c := range []struct {
		list []float32
		want []complex64
	}{
		{[]float32{3, 5}, []complex64{8, -2}},
		{[]float32{minusZero(), minusZero()}, []complex64{0, 0}},
		{[]float32{1, 2, 3, 5}, []complex64{11, complex(-2, 3), -3, complex(-2, -3)}},
		{[]float32{0, 1, 0, 0}, []complex64{1, complex(0, -1), -1, complex(0, 1)}},
		{[]float32{0, 0, 1, 0}, []complex64{1, -1, 1, -1}},
		{[]float32{0, 0, 0, 1}, []complex64{1, complex(0, 1), -1, complex(0, -1)}},
		{[]float32{0, 1, 0, 0, 0, 0, 0, 0}, []complex64{1, complex(half, -half), complex(0, -1), complex(-half, -half), -1, complex(-half, half), complex(0, 1), complex(half, half)}},
		{repeated(float32(0.3), 1), reals(0.3)},
		{[]float32{1, 0, 0}, []complex64{1, 1, 1}},
		// Sums are made in order.
		{[]float32{16777216, 1, 1, 1}, []complex64{16777216, 16777215, 16777215, 16777215}},
		{[]float32{1, 1, 1, 16777216}, []complex64{16777220, complex(0, 16777215), -16777215, complex(0, -16777215)}},
		{[]float32{16777216, 1, -16777216, 1}, []complex64{1, 33554432, -2, 33554432}},
		// Numbers that are not finite.
		{[]float32{infinity(), 1}, repeated(complex64(complex(infinity(), notANumber())), 2)},
		{[]float32{1, infinity()}, []complex64{complex(infinity(), notANumber()), complex(-infinity(), notANumber())}},
		{[]float32{1, -infinity(), 2}, []complex64{complex(-infinity(), notANumber()), complex(infinity(), infinity()), complex(infinity(), -infinity())}},
		{[]float32{1, 2, notANumber()}, repeated(complex64(complex(notANumber(), notANumber())), 3)},
		{[]float32{math.MaxFloat32, math.MaxFloat32}, []complex64{fromRealBits(0x7f800000), 0}},
		{[]float32{math.MaxFloat32, math.MaxFloat32, -math.MaxFloat32, -math.MaxFloat32}, []complex64{fromRealBits(0x7f800000), complex(infinity(), -infinity()), 0, complex(infinity(), infinity())}},
	} {
		got, ok := impl.SpectrumOf(c.list)
		wantComplexes(t, fmt.Sprint("SpectrumOf ", c.list), got, ok, c.want)
	}
}

func TestListsOfFewNumbers(t *testing.T) {
	for _, c := range []struct {
		spectrum []complex64
		want     []float32
	}{
		{[]complex64{8, -2}, []float32{3, 5}},
		{[]complex64{11, complex(-2, 3), -3, complex(-2, -3)}, []float32{1, 2, 3, 5}},
		// There need not be a list of real numbers.
		{[]complex64{complex(0, 4), 0, 0, 0}, []float32{0, 0, 0, 0}},
		{[]complex64{0, 4, 0, 0}, []float32{1, 0, -1, 0}},
		{[]complex64{0, complex(0, 4), 0, 0}, []float32{0, -1, 0, 1}},
		{[]complex64{0, 0, 0, complex(0, 4)}, []float32{0, 1, 0, -1}},
		{[]complex64{complex(minusZero(), minusZero()), complex(minusZero(), 0)}, []float32{0, 0}},
		// Sums are divided, not multiplied by a rounded quotient.
		{[]complex64{5, 0, 0, 0, 0, 0, 0}, repeated(over(5, 7), 7)},
		{reals(withNumbers(11, map[int]float32{0: 3})...), repeated(over(3, 11), 11)},
		{reals(withNumbers(13, map[int]float32{0: 1})...), repeated(over(1, 13), 13)},
		// They are divided in the end, and may be too great before.
		{[]complex64{math.MaxFloat32, math.MaxFloat32}, []float32{infinity(), 0}},
		{[]complex64{fromRealBits(1), fromRealBits(2)}, []float32{fromBits(2), minusZero()}},
		{[]complex64{16777216, 1, 1, 1}, []float32{4194304, 4194303.75, 4194303.75, 4194303.75}},
		{[]complex64{1, 1, 1, 16777216}, []float32{4194305, 0, -4194303.75, 0}},
		// Both parts of each number count.
		{[]complex64{0, complex(0, infinity())}, []float32{notANumber(), notANumber()}},
		{[]complex64{fromRealBits(0x7f800000), 0}, []float32{infinity(), infinity()}},
		{[]complex64{0, fromRealBits(0x7f800000)}, []float32{infinity(), -infinity()}},
		{[]complex64{0, complex(notANumber(), 0), 0}, repeated(notANumber(), 3)},
	} {
		got, ok := impl.ListOf(c.spectrum)
		wantSolved(t, fmt.Sprint("ListOf ", c.spectrum), got, ok, c.want)
	}
}

// A number alone in a list has a spectrum of equal lengths, one number of which
// is turned by as much as the one before.
func TestSpectraOfANumberAlone(t *testing.T) {
	for n := 1; n <= 16; n++ {
		for k := range n {
			list := make([]float32, n)
			list[k] = 2
			got, ok := impl.SpectrumOf(list)
			var want []complex64
			for m := range n {
				sine, cosine := math.Sincos(2 * math.Pi * float64(k*m) / float64(n))
				want = append(want, complex(float32(2*cosine), float32(-2*sine)))
			}
			wantEqual(t, "SpectrumOf succeeds", ok, true)
			wantNearSpectrum(t, fmt.Sprintf("SpectrumOf %d numbers with one at %d", n, k), got, want, 1e-6)
			back, ok := impl.ListOf(want)
			wantEqual(t, "ListOf succeeds", ok, true)
			wantNear(t, fmt.Sprintf("ListOf %d numbers of one at %d", n, k), back, list, 1e-6)
		}
	}
}

func TestSpectraLeadBackNearly(t *testing.T) {
	s := newSource()
	for range 200 {
		for n := 1; n <= 16; n++ {
			list := make([]float32, n)
			for i := range list {
				list[i] = float32(s.Float64()*2 - 1)
			}
			spectrum, one := impl.SpectrumOf(list)
			back, two := impl.ListOf(spectrum)
			wantEqual(t, "SpectrumOf and ListOf succeed", one && two && len(spectrum) == n, true)
			wantNear(t, fmt.Sprint("ListOf SpectrumOf ", list), back, list, 2e-6)
			// The powers of both differ by their length.
			powers, _ := impl.PowersOf(spectrum)
			squares, _ := impl.DotNumbers(list, list)
			wantNear(t, fmt.Sprint("the power of SpectrumOf ", list), []float32{powers}, []float32{squares * float32(n)}, 1e-4)
		}
	}
}

// Opposite numbers of the spectrum of a list are conjugates of each other.
func TestOppositeNumbersOfSpectra(t *testing.T) {
	s := newSource()
	for n := 1; n <= 16; n++ {
		list := s.exactField(impl.Grid{Wide: 4, High: 4})[:n]
		spectrum, _ := impl.SpectrumOf(list)
		sum, _ := impl.SumNumbers(list)
		wantComplex(t, fmt.Sprint("the first number of SpectrumOf ", list), spectrum[0], complex(sum, 0))
		for m := 1; m < n; m++ {
			wantNearSpectrum(t, fmt.Sprint("SpectrumOf ", list), spectrum[m:m+1], []complex64{impl.ConjugateOf(spectrum[n-m])}, 1e-4)
		}
	}
}

func TestSpectraHaveLimits(t *testing.T) {
	for n := range 40 {
		list, spectrum := repeated(float32(1), n), repeated(complex64(1), n)
		if n == 0 || n > 16 {
			wantFailures(t, []badCall{
				{fmt.Sprintf("SpectrumOf %d", n), call1(impl.SpectrumOf(list))},
				{fmt.Sprintf("ListOf %d", n), call1(impl.ListOf(spectrum))},
			})
			continue
		}
		got, one := impl.SpectrumOf(list)
		back, two := impl.ListOf(spectrum)
		wantEqual(t, fmt.Sprintf("SpectrumOf and ListOf %d", n), one && two && len(got) == n && len(back) == n, true)
	}
	wantFailures(t, []badCall{
		{"SpectrumOf nil", call1(impl.SpectrumOf(nil))}, {"ListOf nil", call1(impl.ListOf(nil))},
		{"SpectrumOf 256", call1(impl.SpectrumOf(make([]float32, 256)))}, {"ListOf 256", call1(impl.ListOf(make([]complex64, 256)))},
	})
}

// Lists of any numbers have spectra, and spectra of any numbers have lists.
func TestSpectraOfAnyNumbers(t *testing.T) {
	for n := 1; n <= 16; n++ {
		for _, x := range oddNumbers() {
			for k := range n {
				list, spectrum := repeated(float32(1), n), repeated(complex64(complex(1, -2)), n)
				list[k], spectrum[k] = x, complex(x, 3)
				got, ok := impl.SpectrumOf(list)
				want, _ := spectrumWanted(list)
				wantComplexes(t, fmt.Sprint("SpectrumOf ", list), got, ok, want)
				for range 2 {
					back, ok := impl.ListOf(spectrum)
					wanted, _ := listWanted(spectrum)
					wantSolved(t, fmt.Sprint("ListOf ", spectrum), back, ok, wanted)
					spectrum[k] = complex(2, x)
				}
			}
		}
	}
}
