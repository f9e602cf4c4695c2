package tests

import (
	"fmt"
	"math"
	"slices"
	"testing"

	"loop.example/g01226/impl"
)

// wrongModes are numbers of modes beyond the limits of a side.
func wrongModes(side int64) []int64 {
	return []int64{-1, -2, -side / 2, -side, side, side + 1, 2 * side, 16, 17, 1 << 40, math.MaxInt64, math.MinInt64}
}

// sineWave is a field of the sines of a mode, without the help of the package.
func sineWave(g impl.Grid, m int64, size, turns float64) []float32 {
	field := make([]float32, g.Wide*g.High)
	for i := range field {
		x := float64(int64(i) % g.Wide)
		field[i] = float32(size * math.Sin(2*math.Pi*(float64(m)*x/float64(g.Wide)+turns)))
	}
	return field
}

// fieldOfRows has a list of rows again and again.
func fieldOfRows(g impl.Grid, rows ...[]float32) []float32 {
	var field []float32
	for y := range int(g.High) {
		field = append(field, rows[y%len(rows)]...)
	}
	return field
}

// alone has one number at an index of a row.
func alone(wide, index int64, x float32) []float32 {
	return withNumbers(int(wide), map[int]float32{int(index): x})
}

// The mean row of two kinds of rows has the modes of both, but less of them.
func TestModeOf(t *testing.T) {
	g := impl.Grid{Wide: 4, High: 4}
	field := fieldOfRows(g, []float32{1, 2, 3, 5}, []float32{3, 2, 1, 3})
	for m, want := range []complex64{10, complex(0, 2), -2, complex(0, -2)} {
		got, ok := impl.ModeOf(g, field, int64(m))
		wantEqual(t, fmt.Sprint("ModeOf ", m), wordOfComplex(got, ok), wordOf(true, partsOf(want)...))
	}
}

func TestModesOfWaves(t *testing.T) {
	for _, g := range allGrids() {
		for n := range g.Wide {
			field := sineWave(g, n, 2, 0.125)
			for m := range g.Wide {
				want := complex64(0)
				if m == n {
					want += complex(float32(g.Wide)*0.70710677, -float32(g.Wide)*0.70710677)
				}
				if m == (g.Wide-n)%g.Wide {
					want += complex(float32(g.Wide)*0.70710677, float32(g.Wide)*0.70710677)
				}
				got, one := impl.ModeOf(g, field, m)
				power, two := impl.ModePower(g, field, m)
				wantEqual(t, inGrid("ModeOf and ModePower succeed", g, m), one && two, true)
				wantNearSpectrum(t, inGrid("ModeOf a wave", g, n, m), []complex64{got}, []complex64{want}, 2e-5)
				wantNear(t, inGrid("ModePower of a wave", g, n, m), []float32{power}, []float32{powerWanted(want) * float32(g.High)}, 0.05)
			}
		}
	}
}

// A mode of the mean row is the one of its spectrum, to the last bit.
func TestModesAreThoseOfTheMeanRow(t *testing.T) {
	s := newSource()
	for _, g := range allGrids() {
		field := s.anyField(g)
		mean, _ := impl.MeanRow(g, field)
		spectrum, _ := impl.SpectrumOf(mean)
		for m, want := range spectrum {
			got, ok := impl.ModeOf(g, field, int64(m))
			wantEqual(t, inGrid("ModeOf", g, m, field), wordOfComplex(got, ok), wordOf(true, partsOf(want)...))
		}
	}
}

func TestModesHaveLimits(t *testing.T) {
	for _, g := range allGrids() {
		field := repeated(float32(1), int(g.Wide*g.High))
		for _, m := range wrongModes(g.Wide) {
			if within(0, m, g.Wide-1) {
				continue
			}
			wantFailures(t, []badCall{
				{inGrid("ModeOf", g, m), call1(impl.ModeOf(g, field, m))},
				{inGrid("ModePower", g, m), call1(impl.ModePower(g, field, m))},
				{inGrid("SlideOf", g, m), call1(impl.SlideOf(g, field, field, m))},
			})
		}
		for _, m := range []int64{0, 1, g.Wide / 2, g.Wide - 1} {
			wantSuccesses(t, []badCall{
				{inGrid("ModeOf", g, m), call1(impl.ModeOf(g, field, m))},
				{inGrid("ModePower", g, m), call1(impl.ModePower(g, field, m))},
				{inGrid("SlideOf", g, m), call1(impl.SlideOf(g, field, field, m))},
			})
		}
	}
}

// The powers of rows are added in order, each of them rounded before.
func TestModePower(t *testing.T) {
	const huge = math.MaxFloat32
	for _, c := range []struct {
		numbers []float32
		want    float32
	}{
		{[]float32{1, 2, 3, 4}, 30},
		{[]float32{1, -2, 3, -4, 5}, 55},
		{repeated(minusZero(), 4), 0},
		{[]float32{4096, 1, 1, 1}, 16777216},
		{[]float32{1, 1, 1, 4096}, 16777220},
		{[]float32{1, 4096, 1, 1}, 16777216},
		{[]float32{1, 1, 4096, 0}, 16777218},
		{[]float32{1e19, 1e19, 1e19, 1e19}, infinity()},
		{[]float32{1e19, 1e19, 0, 0}, plus(powerWanted(1e19), powerWanted(1e19))},
		{[]float32{huge, 0, 0, 0}, infinity()},
		{[]float32{1e-30, 1e-30, 1e-30, 1e-30}, 0},
		{[]float32{1e-22, 1e-22, 0, 0}, plus(powerWanted(1e-22), powerWanted(1e-22))},
		{[]float32{notANumber(), 1, 1, 1}, notANumber()},
		{[]float32{infinity(), 1, 1, 1}, notANumber()},
	} {
		for wide := int64(4); wide <= 16; wide++ {
			g := impl.Grid{Wide: wide, High: int64(len(c.numbers))}
			var field []float32
			for _, x := range c.numbers {
				field = append(field, alone(wide, 0, x)...)
			}
			for m := range wide {
				got, ok := impl.ModePower(g, field, m)
				wantEqual(t, inGrid("ModePower of rows with a number", g, m, c.numbers), wordOfNumber(got, ok), wordOf(true, c.want))
			}
		}
	}
	// Powers do not cancel out, as modes of the mean row do.
	g := impl.Grid{Wide: 4, High: 4}
	field := fieldOfRows(g, []float32{0, 1, 0, 0}, []float32{0, -1, 0, 0})
	power, one := impl.ModePower(g, field, 1)
	mode, two := impl.ModeOf(g, field, 1)
	wantNumber(t, "the power of opposite rows", power, 4)
	wantComplex(t, "the mode of opposite rows", mode, 0)
	wantEqual(t, "ModePower and ModeOf succeed", one && two, true)
}

func TestPowersOfRows(t *testing.T) {
	s := newSource()
	for _, g := range allGrids() {
		field := s.anyField(g)
		got, ok := impl.PowersOfRows(g, field)
		var want []float32
		for m := int64(0); m <= g.Wide/2; m++ {
			power, _ := impl.ModePower(g, field, m)
			want = append(want, power)
		}
		wantSolved(t, inGrid("PowersOfRows", g, field), got, ok, want)
	}
	g := impl.Grid{Wide: 5, High: 4}
	got, ok := impl.PowersOfRows(g, fieldOfRows(g, alone(5, 0, 3)))
	wantSolved(t, "PowersOfRows of rows with a number", got, ok, []float32{36, 36, 36})
}

func wantKeptModes(t *testing.T, g impl.Grid, field []float32, low, high int64, want []float32, most float64) {
	t.Helper()
	got, ok := impl.KeepModes(g, field, low, high)
	wantEqual(t, inGrid("KeepModes succeeds", g, low, high), ok, true)
	wantNear(t, inGrid("KeepModes", g, low, high), got, want, most)
}

// Of a sum of waves, those with modes between the limits stay, and those whose
// modes are as far below Wide.
func TestKeepModes(t *testing.T) {
	for _, g := range allGrids() {
		points := int(g.Wide * g.High)
		var waves [][]float32
		all := make([]float32, points)
		for m := range g.Wide/2 + 1 {
			waves = append(waves, sineWave(g, m, float64(m+1), 0.2))
			for i, x := range waves[m] {
				all[i] += x
			}
		}
		for low := int64(0); low <= g.Wide; low++ {
			for high := low; high <= g.Wide; high++ {
				want := make([]float32, points)
				for m, wave := range waves {
					if !within(low, int64(m), high) && !within(low, g.Wide-int64(m), high) {
						continue
					}
					for i, x := range wave {
						want[i] += x
					}
				}
				wantKeptModes(t, g, all, low, high, want, 1e-4)
			}
		}
	}
}

// The mode 0 is the mean of a row, and is kept as the mode Wide, too.
func TestTheModeNothing(t *testing.T) {
	for _, g := range allGrids() {
		field, means, others := make([]float32, g.Wide*g.High), make([]float32, g.Wide*g.High), make([]float32, g.Wide*g.High)
		for i := range field {
			x, y := int64(i)%g.Wide, int64(i)/g.Wide
			means[i] = float32(y + 1)
			others[i] = float32(2*x - g.Wide + 1)
			field[i] = means[i] + others[i]
		}
		wantKeptModes(t, g, field, 0, 0, means, 1e-4)
		wantKeptModes(t, g, field, g.Wide, g.Wide, means, 1e-4)
		wantKeptModes(t, g, field, 1, g.Wide-1, others, 1e-4)
		wantKeptModes(t, g, field, 1, g.Wide/2, others, 1e-4)
		wantKeptModes(t, g, field, (g.Wide+1)/2, g.Wide-1, others, 1e-4)
		for _, limits := range [][2]int64{{0, g.Wide}, {0, g.Wide - 1}, {0, g.Wide / 2}, {1, g.Wide}, {(g.Wide + 1) / 2, g.Wide}} {
			wantKeptModes(t, g, field, limits[0], limits[1], field, 1e-4)
		}
	}
}

// A mode that is not kept is nothing, even if it is infinite or not a number.
func TestModesThatAreNotKeptAreNothing(t *testing.T) {
	g := impl.Grid{Wide: 4, High: 5}
	zeros := make([]float32, 20)
	got, ok := impl.KeepModes(g, repeated(float32(3e38), 20), 1, 3)
	wantSolved(t, "KeepModes without an infinite mode", got, ok, zeros)
	got, ok = impl.KeepModes(g, repeated(infinity(), 20), 1, 3)
	wantSolved(t, "KeepModes of modes that are not numbers", got, ok, repeated(notANumber(), 20))
	got, ok = impl.KeepModes(g, repeated(float32(3e38), 20), 0, 0)
	wantSolved(t, "KeepModes of an infinite mode", got, ok, repeated(infinity(), 20))
	// Other rows are not touched.
	field := make([]float32, 20)
	field[7] = notANumber()
	got, ok = impl.KeepModes(g, field, 0, 4)
	wantSolved(t, "KeepModes of a row with a not-a-number", got, ok, fieldOf(g, map[int64]float32{4: notANumber(), 5: notANumber(), 6: notANumber(), 7: notANumber()}))
}

func TestKeepModesHasLimits(t *testing.T) {
	for _, g := range allGrids() {
		field := numbered(g)
		for _, limits := range [][2]int64{
			{-1, 0}, {-1, -1}, {-g.Wide, g.Wide}, {0, -1}, {1, 0}, {g.Wide, g.Wide - 1}, {g.Wide / 2, g.Wide/2 - 1}, {0, g.Wide + 1}, {g.Wide + 1, g.Wide + 1}, {g.Wide, g.Wide + 1},
			{g.Wide + 1, g.Wide}, {math.MinInt64, 0}, {0, math.MaxInt64}, {math.MinInt64, math.MaxInt64}, {math.MaxInt64, math.MinInt64}, {math.MaxInt64, math.MaxInt64}, {math.MinInt64, math.MinInt64},
		} {
			wantFailures(t, []badCall{{inGrid("KeepModes", g, limits), call1(impl.KeepModes(g, field, limits[0], limits[1]))}})
		}
		for _, limits := range [][2]int64{{0, 0}, {0, g.Wide}, {g.Wide, g.Wide}, {1, 1}, {g.Wide - 1, g.Wide}} {
			wantSuccesses(t, []badCall{{inGrid("KeepModes", g, limits), call1(impl.KeepModes(g, field, limits[0], limits[1]))}})
		}
	}
}

func wantStrong(t *testing.T, what string, g impl.Grid, field []float32, m int64, power float32) {
	t.Helper()
	wantEqual(t, what, wordOfStrong(impl.StrongMode(g, field)), wordOfStrong(m, power, true))
}

func TestStrongModesOfWaves(t *testing.T) {
	for _, g := range allGrids() {
		for n := int64(1); n <= g.Wide; n++ {
			field := sineWave(g, n, 3, 0.1)
			// A mean counts nothing, however great it is.
			for i := range field {
				field[i] += 100
			}
			m, power, ok := impl.StrongMode(g, field)
			want, _ := impl.ModePower(g, field, m)
			wantEqual(t, inGrid("StrongMode succeeds", g, n), ok, true)
			wantNumber(t, inGrid("the power of StrongMode", g, n), power, want)
			if n < g.Wide {
				wantEqual(t, inGrid("StrongMode", g, n), m, min(n, g.Wide-n))
			}
		}
	}
}

// Modes that are equally strong.
func TestFirstOfStrongModes(t *testing.T) {
	for _, g := range allGrids() {
		points := int(g.Wide * g.High)
		wantStrong(t, inGrid("StrongMode of nothing", g), g, make([]float32, points), 1, 0)
		wantStrong(t, inGrid("StrongMode of an alone number", g), g, fieldOf(g, map[int64]float32{0: 5}), 1, 25)
		wantStrong(t, inGrid("StrongMode of a number that is alone in each row", g), g, fieldOfRows(g, alone(g.Wide, 0, -2)), 1, float32(4*g.High))
	}
	// Modes 1 and 2 of the powers 4 and 4, 8 and 4, or 4 and 16, in each row.
	g := impl.Grid{Wide: 4, High: 4}
	wantStrong(t, "StrongMode of two equal ones", g, fieldOfRows(g, []float32{2, 0, 0, 0}), 1, 16)
	wantStrong(t, "StrongMode, the first one", g, fieldOfRows(g, []float32{2, 2, 0, 0}), 1, 32)
	wantStrong(t, "StrongMode, the last one", g, fieldOfRows(g, []float32{2, 0, 2, 0}), 2, 64)
	// Three steps to greater ones, and an equal one behind them.
	g = impl.Grid{Wide: 16, High: 4}
	rising := make([]float32, 64)
	for m, size := range map[int64]float64{1: 1, 2: 2, 3: 1.5, 5: 3, 7: 4, 8: 0.5} {
		for i, x := range sineWave(g, m, size, 0.25) {
			rising[i] += x
		}
	}
	power, _ := impl.ModePower(g, rising, 7)
	wantStrong(t, "StrongMode of rising ones", g, rising, 7, power)
}

// Where two numbers that stand half a row apart are infinite, they take each
// other away in odd modes, but not in even ones.
func TestStrongModesAmongNotANumbers(t *testing.T) {
	g := impl.Grid{Wide: 16, High: 4}
	row := withNumbers(16, map[int]float32{1: infinity(), 9: infinity()})
	powers, _ := impl.PowersOfRows(g, fieldOfRows(g, row))
	wantField(t, "PowersOfRows with two infinities", powers, []float32{notANumber(), notANumber(), infinity(), notANumber(), notANumber(), notANumber(), infinity(), notANumber(), notANumber()})
	wantStrong(t, "StrongMode with two infinities", g, fieldOfRows(g, row), 2, infinity())
	row[9] = 0
	wantStrong(t, "StrongMode with one infinity", g, fieldOfRows(g, row), 1, infinity())
	wantStrong(t, "StrongMode with one infinity in one row", g, fieldOfRows(g, row, make([]float32, 16), make([]float32, 16), make([]float32, 16)), 1, infinity())
	row[9] = -infinity()
	wantStrong(t, "StrongMode with opposite infinities", g, fieldOfRows(g, row), 1, infinity())
	// All modes are not-a-numbers.
	for _, g := range allGrids() {
		for _, x := range []float32{notANumber(), infinity(), -infinity()} {
			first := fieldOf(g, map[int64]float32{g.Wide: x})
			wantFailures(t, []badCall{
				{inGrid("StrongMode of not-a-numbers", g, x), call2(impl.StrongMode(g, first))},
				{inGrid("StrongMode of not-a-numbers everywhere", g, x), call2(impl.StrongMode(g, repeated(x, int(g.Wide*g.High))))},
			})
		}
	}
}

// withMode is a field whose mode 1 is x, exactly.
func withMode(x complex64) []float32 {
	g := impl.Grid{Wide: 4, High: 4}
	return fieldOfRows(g, []float32{real(x), 0, 0, imag(x)})
}

func TestSlideOf(t *testing.T) {
	g := impl.Grid{Wide: 4, High: 4}
	tiny := float32(1e-20)
	for _, c := range []struct {
		before, after complex64
		want          float32
	}{
		{1, 1, 0},
		{1, complex(0, 1), 0.25},
		{complex(0, 1), 1, -0.25},
		{1, complex(1, 1), 0.125},
		{1, complex(0, -3), -0.25},
		{complex(1, 1), complex(-7, 7), 0.25},
		// The shorter way around.
		{complex(-1, 1), complex(-1, -1), 0.25},
		{complex(-1, -1), complex(-1, 1), -0.25},
		{complex(0, -1), complex(-1, 1), -0.375},
		{complex(-1, 1), complex(0, -1), 0.375},
		// Exactly half a turn stays as it is.
		{complex(0, 1), complex(0, -1), -0.5},
		{complex(0, -1), complex(0, 1), 0.5},
		{1, -1, 0.5},
		{-1, 1, -0.5},
		{complex(1, 1), complex(-1, -1), -0.5},
		{complex(-1, -1), complex(1, 1), 0.5},
		{complex(-3, 3), complex(3, -3), -0.5},
		{complex(3, -3), complex(-3, 3), 0.5},
		// A bit more, which turns the sign, or less.
		{complex(0, -1), complex(-1e-5, 1), minus(plus(impl.AngleOf(complex(-1e-5, 1)), 0.25), 1)},
		{complex(0, -1), complex(1e-5, 1), plus(impl.AngleOf(complex(1e-5, 1)), 0.25)},
		{complex(0, 1), complex(-1e-5, -1), plus(minus(impl.AngleOf(complex(-1e-5, -1)), 0.25), 1)},
		{complex(0, 1), complex(1e-5, -1), minus(impl.AngleOf(complex(1e-5, -1)), 0.25)},
		// Nearly a whole turn.
		{complex(-1, -tiny), complex(-1, tiny), 0},
		{complex(-1, tiny), complex(-1, -tiny), 0},
		{-1, complex(-1, -1e-3), plus(minus(impl.AngleOf(complex(-1, -1e-3)), 0.5), 1)},
		{-1, complex(-1, 1e-3), minus(impl.AngleOf(complex(-1, 1e-3)), 0.5)},
		// A mode that is nothing has the angle 0.
		{0, complex(0, 1), 0.25},
		{complex(0, 1), 0, -0.25},
		{0, 0, 0},
		{0, complex(-1, minusZero()), 0.5},
		// Modes that are not finite have no angle.
		{1, complex(infinity(), 1), notANumber()},
		{complex(notANumber(), 1), 1, notANumber()},
		{complex(3e38, 1), 1, notANumber()},
	} {
		what := fmt.Sprintf("SlideOf from %v to %v", c.before, c.after)
		got, ok := impl.SlideOf(g, withMode(c.before), withMode(c.after), 1)
		wantEqual(t, what, wordOfNumber(got, ok), wordOf(true, c.want))
		// The other mode is the conjugate, and goes the other way.
		if c.want == c.want && c.want != 0 && real(c.before) != -1 && real(c.after) != -1 {
			got, ok = impl.SlideOf(g, withMode(c.before), withMode(c.after), 3)
			wantEqual(t, what+" for the mode 3", wordOfNumber(got, ok), wordOf(true, -c.want))
		}
	}
}

// Slides just below and just above half a turn, whatever the angles are.
func TestSlidesNearHalfATurn(t *testing.T) {
	g := impl.Grid{Wide: 4, High: 4}
	s := newSource()
	more, less := 0, 0
	for range 2000 {
		turn := s.Float64()
		x := impl.PhasorOf(turn)
		y := impl.PhasorOf(turn + 0.5 + (s.Float64()-0.5)*1e-6)
		d := minus(impl.AngleOf(y), impl.AngleOf(x))
		got, ok := impl.SlideOf(g, withMode(x), withMode(y), 1)
		wantEqual(t, fmt.Sprintf("SlideOf from %v to %v", x, y), wordOfNumber(got, ok), wordOf(true, turnedIn(d)))
		if !(got >= -0.5 && got <= 0.5) {
			t.Errorf("SlideOf from %v to %v is %v", x, y, got)
		}
		if d < -0.5 || d > 0.5 {
			more++
		} else {
			less++
		}
	}
	wantEqual(t, "whether there are slides of both kinds", more > 100 && less > 100, true)
}

// A wave that has gone on has slid by its turns.
func TestSlidesOfWaves(t *testing.T) {
	for _, g := range allGrids() {
		for m := int64(1); 2*m < g.Wide; m++ {
			for _, turns := range []float32{-0.45, -0.25, -0.1, 0, 0.1, 0.3, 0.45} {
				before, one := impl.WaveField(g, m, 2, 0.3)
				after, two := impl.WaveField(g, m, 5, 0.3+turns)
				got, three := impl.SlideOf(g, before, after, m)
				wantEqual(t, inGrid("SlideOf waves succeeds", g, m, turns), one && two && three, true)
				wantNear(t, inGrid("SlideOf waves", g, m, turns), []float32{got}, []float32{turns}, 1e-5)
			}
		}
	}
}

// Each row of a field is treated as that of another one.
func TestModesOfRowsInAnyOrder(t *testing.T) {
	s := newSource()
	for _, g := range validGrids() {
		field := s.exactField(g)
		var turned []float32
		for row := range slices.Chunk(field, int(g.Wide)) {
			turned = append(slices.Clone(row), turned...)
		}
		one, _ := impl.KeepModes(g, field, 1, 2)
		two, _ := impl.KeepModes(g, turned, 1, 2)
		for y := range g.High {
			first, _ := impl.RowOf(g, one, y)
			second, _ := impl.RowOf(g, two, g.High-1-y)
			wantField(t, inGrid("KeepModes of rows in another order", g, y), second, first)
		}
	}
}
