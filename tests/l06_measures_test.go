package tests

import (
	"fmt"
	"math"
	"slices"
	"testing"

	"loop.example/g01226/impl"
)

// speeding are particles with speeds, of different masses.
func speeding(speeds ...complex64) []impl.Particle {
	var list []impl.Particle
	for i, speed := range speeds {
		list = append(list, massive(float32(i+1), speed))
	}
	return list
}

func TestCoolestOf(t *testing.T) {
	const huge = math.MaxFloat32
	for _, c := range []struct {
		speeds []complex64
		index  int64
		least  float32
	}{
		{[]complex64{complex(3, -4)}, 0, 5},
		{[]complex64{complex(minusZero(), minusZero())}, 0, 0},
		{[]complex64{1, 2, 3}, 0, 1},
		{[]complex64{3, 2, 1}, 2, 1},
		{[]complex64{3, complex(0, -1), 2}, 1, 1},
		{[]complex64{complex(3, 4), -5, complex(0, 5), complex(-4, -3)}, 0, 5},
		{[]complex64{7, complex(3, 4), -5, complex(0, 5), complex(-4, -3), 6}, 1, 5},
		{[]complex64{1, 0, complex(minusZero(), minusZero()), 0}, 1, 0},
		{[]complex64{1, fromRealBits(1), 0, fromRealBits(2)}, 2, 0},
		{[]complex64{complex(0, above(1)), 1, complex(0, below(1))}, 2, below(1)},
		// Numbers that are equal when they are narrowed.
		{[]complex64{complex(1, 0x1p-20), 1}, 0, 1},
		{[]complex64{complex(1, 0x1p-11), 1}, 1, 1},
		// Great ones, the power of which is not finite in 32 bits, or which are
		// not finite themselves.
		{[]complex64{huge}, 0, huge},
		{[]complex64{1e38, complex(0, -1e30)}, 1, 1e30},
		{[]complex64{complex(huge, huge), complex(0, -huge), complex(huge, huge)}, 1, huge},
		{[]complex64{complex(huge, huge), complex(huge, -huge), complex(3e38, 1e37)}, 2, longWanted(complex(3e38, 1e37))},
		// Small ones, the power of which is 0 in 32 bits.
		{[]complex64{1e-30, complex(0, 1e-31)}, 1, 1e-31},
	} {
		index, least, ok := impl.CoolestOf(speeding(c.speeds...))
		what := fmt.Sprint("CoolestOf ", c.speeds)
		wantEqual(t, what+" succeeds", ok, true)
		wantEqual(t, what+", the index", index, c.index)
		wantNumber(t, what+", the number", least, c.least)
	}
}

func fromRealBits(bits uint32) complex64 {
	return complex(fromBits(bits), 0)
}

// There must be a particle, and a least number that is finite.
func TestCoolestParticlesMustBeThere(t *testing.T) {
	const huge = math.MaxFloat32
	for _, list := range [][]impl.Particle{nil, {}, speeding(complex(huge, huge)), speeding(complex(huge, huge), complex(-huge, 3e38)), speeding(repeated(complex64(complex(3e38, 3e38)), 64)...)} {
		wantFailures(t, []badCall{{fmt.Sprintf("CoolestOf(%.200v)", list), call2(impl.CoolestOf(list))}})
	}
}

func TestCoolestParticlesWhereverTheyStand(t *testing.T) {
	for n := 1; n <= 64; n++ {
		for i := range n {
			list := speeding(repeated(complex64(complex(0.6, 0.8)), n)...)
			list[i].Speed = complex(0, 0.5)
			index, least, ok := impl.CoolestOf(list)
			wantEqual(t, "CoolestOf", wordOfList(ok, nil, index, impl.BitsOf(least)), wordOfList(true, nil, int64(i), impl.BitsOf(0.5)))
		}
	}
}

func TestSpreadOf(t *testing.T) {
	const huge = math.MaxFloat32
	for _, c := range []struct {
		what   string
		speeds []complex64
		want   float32
	}{
		{"one", []complex64{complex(3, -7)}, 0},
		{"one with signs", []complex64{complex(minusZero(), minusZero())}, 0},
		{"two", []complex64{1, 3}, 1},
		{"opposite ones", []complex64{complex(1, 2), complex(-1, -2)}, 5},
		{"three", []complex64{3, complex(0, 3), complex(-3, -3)}, 12},
		{"four with a mean", []complex64{1, 2, 3, 6}, 3.5},
		{"equal ones", repeated(complex64(complex(3, -7)), 64), 0},
		{"equal ones whose sum is rounded", repeated(complex64(complex(0, 1+0x1p-22)), 8), 0x1p-46},
		{"one that is great", []complex64{complex(huge, -huge)}, 0},
		{"great ones", []complex64{complex(1e19, 0), complex(-1e19, 0)}, powerWanted(1e19)},
		// The sum is not rounded to 32 bits, and neither is it too great for them.
		{"small ones after great ones", append([]complex64{0x1p12, -0x1p12}, slices.Repeat([]complex64{1, -1}, 31)...), (0x1p25 + 62.0) / 64},
		{"powers that add up beyond 32 bits", []complex64{1.5e19, complex(0, 1.5e19), -1.5e19, complex(0, -1.5e19)}, powerWanted(1.5e19)},
		{"a power that is lost", []complex64{complex(1e-30, 0), complex(-1e-30, 0)}, 0},
		{"powers that are narrowed before", []complex64{1 + 0x1p-12, -1 - 0x1p-12, complex(1+0x1p-12, 0x1p-12), complex(-1-0x1p-12, -0x1p-12)}, 1 + 0x1p-11},
		{"great ones that take each other away", []complex64{0x1p63, complex(0, 1), -0x1p63, complex(0, -1)}, 0x1p125},
	} {
		got, ok := impl.SpreadOf(speeding(c.speeds...))
		wantEqual(t, "SpreadOf "+c.what, wordOfNumber(got, ok), wordOf(true, c.want))
	}
}

func TestSpreadsMustBeFinite(t *testing.T) {
	const huge = math.MaxFloat32
	for _, speeds := range [][]complex64{
		nil, {},
		{huge, huge},
		{complex(0, -huge), complex(0, -huge), complex(0, huge)},
		{huge, -huge},
		{complex(0, huge), complex(0, -huge)},
		{2e19, -2e19},
		{complex(1, 1e30), complex(1, 0), complex(1, -1e30)},
		append(repeated(complex64(0), 62), 2e19, -2e19),
	} {
		wantFailures(t, []badCall{{fmt.Sprint("SpreadOf ", speeds), call1(impl.SpreadOf(speeding(speeds...)))}})
	}
}

// Speeds that all get another one more differ as much as before, nearly, and in
// whatever order they are. Masses do not matter.
func TestSpreadsTakeTheMeanAway(t *testing.T) {
	s := newSource()
	for range 1000 {
		list := s.gentleCloud(1 + s.Intn(48)).Particles
		before, one := impl.SpreadOf(list)
		after := slices.Clone(list)
		slices.Reverse(after)
		for i := range after {
			after[i].Speed += complex(5, -3)
			after[i].Mass *= float32(i + 1)
		}
		got, two := impl.SpreadOf(after)
		wantEqual(t, "SpreadOf succeeds", one && two, true)
		wantNear(t, "SpreadOf", []float32{got}, []float32{before}, 1e-5)
		heat, _ := impl.TemperatureOf(impl.Cloud{Grid: impl.Grid{Wide: 4, High: 4}, Particles: list})
		wantNear(t, "SpreadOf, which is the temperature", []float32{before}, []float32{heat}, 1e-4)
	}
}
