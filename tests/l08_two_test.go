package tests

import (
	"math"
	"slices"
	"testing"

	"loop.example/g01226/impl"
)

// A number alone in a field has a spectrum of equal lengths: the number of m and
// n is turned by as much as the ways of m along X and of n along Y make.
func TestTwoSpectrumOfANumberAlone(t *testing.T) {
	for _, g := range validGrids() {
		for i := range g.Wide * g.High {
			field := fieldOf(g, map[int64]float32{i: 3})
			var want []complex64
			for n := range g.High {
				for m := range g.Wide {
					turns := float64(m*(i%g.Wide))/float64(g.Wide) + float64(n*(i/g.Wide))/float64(g.High)
					sine, cosine := math.Sincos(2 * math.Pi * turns)
					want = append(want, complex(float32(3*cosine), float32(-3*sine)))
				}
			}
			got, one := impl.TwoSpectrum(g, field)
			wantNearSpectrum(t, inGrid("TwoSpectrum of a number alone", g, i), got, want, 2e-6)
			back, two := impl.FieldOfTwo(g, want)
			wantNear(t, inGrid("FieldOfTwo of a number alone", g, i), back, field, 2e-6)
			wantEqual(t, inGrid("TwoSpectrum and FieldOfTwo succeed", g, i), one && two, true)
		}
	}
}

// In grids of the side 4, spectra of small integers are exact.
func TestTwoSpectrumOfSmallIntegers(t *testing.T) {
	g := impl.Grid{Wide: 4, High: 4}
	got, ok := impl.TwoSpectrum(g, []float32{1, 2, 3, 5, 0, 0, 0, 0, 0, 7, 0, 0, 0, 0, 0, 0})
	wantComplexes(t, "TwoSpectrum", got, ok, []complex64{
		18, complex(-2, -4), -10, complex(-2, 4),
		4, complex(-2, 10), 4, complex(-2, -10),
		18, complex(-2, -4), -10, complex(-2, 4),
		4, complex(-2, 10), 4, complex(-2, -10),
	})
	back, ok := impl.FieldOfTwo(g, got)
	wantSolved(t, "FieldOfTwo", back, ok, []float32{1, 2, 3, 5, 0, 0, 0, 0, 0, 7, 0, 0, 0, 0, 0, 0})
	s := newSource()
	for range 200 {
		field := s.exactField(g)
		spectrum, _ := impl.TwoSpectrum(g, field)
		back, ok := impl.FieldOfTwo(g, spectrum)
		wantSolved(t, inGrid("FieldOfTwo TwoSpectrum", g, field), back, ok, field)
	}
}

func TestTwoSpectraLeadBackNearly(t *testing.T) {
	s := newSource()
	for range 5 {
		for _, g := range allGrids() {
			field := make([]float32, g.Wide*g.High)
			for i := range field {
				field[i] = float32(s.Float64()*2 - 1)
			}
			spectrum, one := impl.TwoSpectrum(g, field)
			back, two := impl.FieldOfTwo(g, spectrum)
			wantEqual(t, inGrid("TwoSpectrum and FieldOfTwo succeed", g), one && two && len(spectrum) == len(field), true)
			wantNear(t, inGrid("FieldOfTwo TwoSpectrum", g, field), back, field, 3e-6)
			powers, _ := impl.PowersOf(spectrum)
			squares, _ := impl.FieldDot(g, field, field)
			wantNear(t, inGrid("the power of TwoSpectrum", g), []float32{powers / float32(len(field))}, []float32{squares}, 1e-4)
		}
	}
}

// A field leads to the spectrum it comes from, if that one has opposite numbers
// that are conjugates.
func TestFieldsLeadBackNearly(t *testing.T) {
	s := newSource()
	for _, g := range allGrids() {
		spectrum := make([]complex64, g.Wide*g.High)
		for n := range g.High {
			for m := range g.Wide {
				opposite := (g.Wide-m)%g.Wide + g.Wide*((g.High-n)%g.High)
				x := complex(float32(s.Float64()), float32(s.Float64()))
				if opposite == m+g.Wide*n {
					x = complex(real(x), 0)
				}
				spectrum[m+g.Wide*n], spectrum[opposite] = x, complex(real(x), -imag(x))
			}
		}
		field, one := impl.FieldOfTwo(g, spectrum)
		back, two := impl.TwoSpectrum(g, field)
		wantEqual(t, inGrid("FieldOfTwo and TwoSpectrum succeed", g), one && two, true)
		wantNearSpectrum(t, inGrid("TwoSpectrum FieldOfTwo", g), back, spectrum, 1e-5)
	}
}

// The field of a number alone is a wave, or is made less, by Wide and by High.
func TestFieldOfTwo(t *testing.T) {
	for _, g := range validGrids() {
		points := int(g.Wide * g.High)
		want := times(times(float32(7), over(1, float32(g.High))), over(1, float32(g.Wide)))
		got, ok := impl.FieldOfTwo(g, reals(fieldOf(g, map[int64]float32{0: 7})...))
		wantSolved(t, inGrid("FieldOfTwo of the mode 0, 0", g), got, ok, repeated(want, points))
		spectrum := make([]complex64, points)
		spectrum[0] = complex(0, 7)
		got, ok = impl.FieldOfTwo(g, spectrum)
		wantSolved(t, inGrid("FieldOfTwo without a real part", g), got, ok, make([]float32, points))
		for _, m := range []int64{1, g.Wide - 1} {
			spectrum := make([]complex64, points)
			spectrum[m] = complex(0, float32(-points))
			got, ok := impl.FieldOfTwo(g, spectrum)
			wantEqual(t, inGrid("FieldOfTwo succeeds", g, m), ok, true)
			wantNear(t, inGrid("FieldOfTwo of a wave", g, m), got, sineWave(g, m, 1, 0), 1e-6)
		}
	}
	g := impl.Grid{Wide: 4, High: 5}
	spectrum := make([]complex64, 20)
	spectrum[7] = complex(1, notANumber())
	got, ok := impl.FieldOfTwo(g, spectrum)
	wantSolved(t, "FieldOfTwo of a not-a-number", got, ok, repeated(notANumber(), 20))
	got, ok = impl.FieldOfTwo(g, repeated(complex64(complex(minusZero(), minusZero())), 20))
	wantSolved(t, "FieldOfTwo of zeros with signs", got, ok, make([]float32, 20))
}

func TestModeNumber(t *testing.T) {
	for _, g := range allGrids() {
		for n := range g.High {
			for m := range g.Wide {
				got, ok := impl.ModeNumber(g, m, n)
				sine := func(k, side int64) float64 { return math.Sin(math.Pi * float64(k) / float64(side)) }
				want := 4 * (math.Pow(sine(m, g.Wide), 2) + math.Pow(sine(n, g.High), 2))
				wantEqual(t, inGrid("ModeNumber succeeds", g, m, n), ok, true)
				wantNear(t, inGrid("ModeNumber", g, m, n), []float32{got}, []float32{float32(want)}, 2e-6)
				wantEqual(t, inGrid("whether ModeNumber is nothing", g, m, n), got == 0, m == 0 && n == 0)
				bits, _ := modeNumberWanted(g, m, n)
				wantNumber(t, inGrid("ModeNumber", g, m, n), got, bits)
			}
		}
		if g.Wide%2 == 0 && g.High%2 == 0 {
			got, ok := impl.ModeNumber(g, g.Wide/2, g.High/2)
			wantEqual(t, inGrid("the greatest ModeNumber", g), wordOfNumber(got, ok), wordOf(true, 8))
		}
		zero, ok := impl.ModeNumber(g, 0, 0)
		wantEqual(t, inGrid("ModeNumber 0, 0", g), wordOfNumber(zero, ok), wordOf(true, 0))
	}
}

func TestModeNumbersHaveLimits(t *testing.T) {
	for _, g := range allGrids() {
		for _, m := range wrongModes(g.Wide) {
			if !within(0, m, g.Wide-1) {
				wantFailures(t, []badCall{{inGrid("ModeNumber", g, m, 0), call1(impl.ModeNumber(g, m, 0))}, {inGrid("ModeNumber", g, m, g.High-1), call1(impl.ModeNumber(g, m, g.High-1))}})
			}
		}
		for _, n := range wrongModes(g.High) {
			if !within(0, n, g.High-1) {
				wantFailures(t, []badCall{{inGrid("ModeNumber", g, 0, n), call1(impl.ModeNumber(g, 0, n))}, {inGrid("ModeNumber", g, g.Wide-1, n), call1(impl.ModeNumber(g, g.Wide-1, n))}})
			}
		}
		wantSuccesses(t, []badCall{{inGrid("ModeNumber of the last mode", g), call1(impl.ModeNumber(g, g.Wide-1, g.High-1))}})
	}
}

// Four times a potential, less that of the neighbours, is the charge without its
// mean, nearly.
func TestPotentialsBySpectraHaveNearlyNoResidual(t *testing.T) {
	s := newSource()
	for range 5 {
		for _, g := range allGrids() {
			charge := make([]float32, g.Wide*g.High)
			for i := range charge {
				charge[i] = float32(s.Float64()*2 - 1)
			}
			v, one := impl.ExactPotential(g, charge)
			residual, two := impl.ResidualOf(g, v, charge)
			wantEqual(t, inGrid("ExactPotential and ResidualOf succeed", g), one && two && len(v) == len(charge), true)
			if !(residual < 2e-5) {
				t.Errorf("the residual in %v is %v", g, residual)
			}
			mean, _ := impl.MeanOf(g, v)
			wantNear(t, inGrid("the mean of ExactPotential", g), []float32{mean}, []float32{0}, 1e-6)
		}
	}
}

// The residuals of charges that particles leave are as near to nothing.
func TestPotentialsOfParticlesBySpectra(t *testing.T) {
	s := newSource()
	for _, g := range allGrids() {
		var list []impl.Particle
		for range 40 {
			list = append(list, particleAt(complex(float32(s.Float64()*16), float32(s.Float64()*16)), float32(s.Intn(3)-1)))
		}
		charge, _ := impl.DepositOf(g, list)
		v, one := impl.ExactPotential(g, charge)
		residual, two := impl.ResidualOf(g, v, charge)
		wantEqual(t, inGrid("ExactPotential and ResidualOf succeed", g), one && two, true)
		if !(residual < 5e-5) {
			t.Errorf("the residual of particles in %v is %v", g, residual)
		}
	}
}

// What sweeps solve nearly, spectra do.
func TestPotentialsBySpectraAreThoseOfSweeps(t *testing.T) {
	s := newSource()
	for _, g := range []impl.Grid{{Wide: 4, High: 4}, {Wide: 4, High: 6}, {Wide: 6, High: 4}, {Wide: 6, High: 6}, {Wide: 8, High: 4}} {
		charge := s.exactField(g)
		swept, one := impl.SolvePotential(g, charge, 60)
		exact, two := impl.ExactPotential(g, charge)
		wantEqual(t, inGrid("SolvePotential and ExactPotential succeed", g), one && two, true)
		wantNear(t, inGrid("ExactPotential", g, charge), exact, swept, 1e-3)
	}
}

// The mode 0, 0 is left out, even if it is infinite.
func TestTheMeanOfChargesCountsNothing(t *testing.T) {
	s := newSource()
	for _, g := range allGrids() {
		points := int(g.Wide * g.High)
		charge, more := s.exactField(g), make([]float32, points)
		for i, x := range charge {
			more[i] = x + 64
		}
		v, one := impl.ExactPotential(g, charge)
		w, two := impl.ExactPotential(g, more)
		wantEqual(t, inGrid("ExactPotential succeeds", g), one && two, true)
		wantNear(t, inGrid("ExactPotential of more charge", g), w, v, 2e-3)
	}
	g := impl.Grid{Wide: 4, High: 4}
	for _, x := range []float32{0, minusZero(), 1, -7, 5e37, -5e37} {
		v, ok := impl.ExactPotential(g, repeated(x, 16))
		wantSolved(t, inGrid("ExactPotential of even charge", g, x), v, ok, make([]float32, 16))
	}
	spectrum, _ := impl.TwoSpectrum(g, repeated(float32(5e37), 16))
	wantComplex(t, "the mode 0, 0 of great charge", spectrum[0], complex(infinity(), 0))
}

func TestPotentialsOfNumbersThatAreNotFinite(t *testing.T) {
	for _, g := range validGrids() {
		points := int(g.Wide * g.High)
		for _, x := range []float32{notANumber(), infinity(), -infinity()} {
			v, ok := impl.ExactPotential(g, fieldOf(g, map[int64]float32{g.Wide + 1: x}))
			wantSolved(t, inGrid("ExactPotential", g, x), v, ok, repeated(notANumber(), points))
		}
	}
}

// ringCounts are how many modes each ring has, by the ways to 0, 0 around all
// edges.
func ringCounts(g impl.Grid) []float32 {
	var counts []float32
	for n := range g.High {
		for m := range g.Wide {
			far := math.MaxFloat64
			for _, x := range []int64{m - g.Wide, m} {
				for _, y := range []int64{n - g.High, n} {
					far = min(far, math.Hypot(float64(x), float64(y)))
				}
			}
			for int(far) >= len(counts) {
				counts = append(counts, 0)
			}
			counts[int(far)]++
		}
	}
	return counts
}

// Each number of the spectrum of a number alone has nearly the same power.
func TestRingsOfANumberAlone(t *testing.T) {
	for _, g := range allGrids() {
		got, ok := impl.RingPowers(g, fieldOf(g, map[int64]float32{0: 1}))
		wantSolved(t, inGrid("RingPowers of a number at 0, 0", g), got, ok, ringCounts(g))
		got, ok = impl.RingPowers(g, fieldOf(g, map[int64]float32{2*g.Wide - 1: 1}))
		wantEqual(t, inGrid("RingPowers succeeds", g), ok, true)
		wantNear(t, inGrid("RingPowers of a number alone", g), got, ringCounts(g), 1e-4)
	}
}

func TestLengthsOfRings(t *testing.T) {
	for _, c := range []struct {
		g    impl.Grid
		want []float32
	}{
		{impl.Grid{Wide: 4, High: 4}, []float32{1, 8, 7}},
		{impl.Grid{Wide: 5, High: 4}, []float32{1, 8, 11}},
		{impl.Grid{Wide: 4, High: 5}, []float32{1, 8, 11}},
		{impl.Grid{Wide: 5, High: 5}, []float32{1, 8, 16}},
		{impl.Grid{Wide: 6, High: 6}, []float32{1, 8, 16, 10, 1}},
		{impl.Grid{Wide: 4, High: 16}, []float32{1, 8, 11, 8, 8, 8, 8, 8, 4}},
		{impl.Grid{Wide: 16, High: 4}, []float32{1, 8, 11, 8, 8, 8, 8, 8, 4}},
	} {
		got, ok := impl.RingPowers(c.g, fieldOf(c.g, map[int64]float32{0: 1}))
		wantSolved(t, inGrid("RingPowers", c.g), got, ok, c.want)
	}
	for wide, want := range map[int64]int{4: 3, 5: 3, 6: 5, 7: 5, 8: 6, 10: 8, 12: 9, 14: 10, 15: 10, 16: 12} {
		g := impl.Grid{Wide: wide, High: wide}
		got, _ := impl.RingPowers(g, make([]float32, wide*wide))
		wantField(t, inGrid("RingPowers of nothing", g), got, make([]float32, want))
	}
}

// A wave has the ring of its mode alone.
func TestRingsOfWaves(t *testing.T) {
	for _, g := range allGrids() {
		for m := range g.Wide {
			field := sineWave(g, m, 2, 0.25)
			got, ok := impl.RingPowers(g, field)
			want := make([]float32, len(ringCounts(g)))
			want[min(m, g.Wide-m)], _ = impl.FieldDot(g, field, field)
			for i := range want {
				want[i] *= float32(len(field))
			}
			wantEqual(t, inGrid("RingPowers succeeds", g, m), ok, true)
			wantNear(t, inGrid("RingPowers of a wave", g, m), got, want, 0.5)
		}
	}
}

// The powers of a ring are rounded and added in the order of the spectrum.
func TestRingsAreAddedInOrder(t *testing.T) {
	s := newSource()
	for range 300 {
		g := s.grid()
		field := s.anyField(g)
		spectrum, _ := impl.TwoSpectrum(g, field)
		want := make([]float32, len(ringCounts(g)))
		for i, x := range spectrum {
			want[ringWantedOf(g, i)] = plus(want[ringWantedOf(g, i)], impl.PowerOf(x))
		}
		got, ok := impl.RingPowers(g, field)
		wantSolved(t, inGrid("RingPowers", g, field), got, ok, want)
	}
}

// ExactPotential, FieldOfTwo and TwoSpectrum go along both sides alike, nearly,
// so that nothing is mixed up where a grid is wider than high.
func TestTurnedFieldsHaveTurnedSpectra(t *testing.T) {
	s := newSource()
	for _, g := range allGrids() {
		other := impl.Grid{Wide: g.High, High: g.Wide}
		field := s.exactField(g)
		turned := make([]float32, len(field))
		turn := func(i int) int64 { return int64(i)/g.Wide + g.High*(int64(i)%g.Wide) }
		for i, x := range field {
			turned[turn(i)] = x
		}
		spectrum, _ := impl.TwoSpectrum(g, field)
		spectrumTurned, _ := impl.TwoSpectrum(other, turned)
		v, _ := impl.ExactPotential(g, field)
		vTurned, _ := impl.ExactPotential(other, turned)
		for i := range field {
			k := turn(i)
			wantNearSpectrum(t, inGrid("TwoSpectrum of a turned field", g, i), spectrumTurned[k:k+1], spectrum[i:i+1], 2e-3)
			wantNear(t, inGrid("ExactPotential of a turned field", g, i), vTurned[k:k+1], v[i:i+1], 2e-3)
		}
		rings, _ := impl.RingPowers(g, field)
		ringsTurned, _ := impl.RingPowers(other, turned)
		wantNear(t, inGrid("RingPowers of a turned field", g), ringsTurned, rings, float64(slices.Max(rings))*1e-5)
	}
}
