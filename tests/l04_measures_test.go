package tests

import (
	"fmt"
	"math"
	"testing"

	"loop.example/g01226/impl"
)

func at(place complex64) impl.Particle {
	return impl.Particle{At: place, Speed: complex(9, 9), Charge: -1, Mass: 3}
}

func TestWayOfLeap(t *testing.T) {
	g := impl.Grid{Wide: 4, High: 6}
	for _, c := range []struct{ before, after, want complex64 }{
		{complex(1, 1), complex(1.5, 0.75), complex(0.5, -0.25)},
		{complex(3.5, 5.5), complex(0.5, 0.5), complex(1, 1)},
		{complex(0.5, 0.5), complex(3.5, 5.5), complex(-1, -1)},
		{complex(1, 1), complex(3, 4), complex(2, 3)},
		{complex(3, 4), complex(1, 1), complex(-2, -3)},
		{complex(1, 1), complex(4.5, 1), complex(-0.5, 0)},
		{complex(-3, 7), complex(9, -5), 0},
		{complex(1e30, 0), complex(1, 1), complex(1, 1)},
	} {
		got, ok := impl.WayOfLeap(g, at(c.before), at(c.after))
		wantFiniteComplex(t, fmt.Sprintf("WayOfLeap %v", c), got, ok, c.want)
	}
}

func TestSpeedBetween(t *testing.T) {
	least, huge, inf := fromBits(1), float32(math.MaxFloat32), infinity()
	g := impl.Grid{Wide: 4, High: 6}
	for _, c := range []struct {
		before, after complex64
		tick          float32
		want          complex64
	}{
		{complex(1, 1), complex(1.5, 0.75), 0.5, complex(1, -0.5)},
		{complex(1, 1), complex(1.5, 0.75), -0.5, complex(-1, 0.5)},
		{complex(3.5, 5.5), complex(0.5, 0.5), 2, complex(0.5, 0.5)},
		{complex(1, 1), complex(1, 1), 2, 0},
		{complex(1, 1), complex(1, 1), -2, complex(minusZero(), minusZero())},
		{complex(1, 1), complex(1.5, 0.75), 0, complex(inf, inf)},
		{complex(1, 1), complex(1.5, 0.75), minusZero(), complex(inf, inf)},
		{complex(1, 1), complex(1, 1), 0, complex(inf, inf)},
		{complex(1, 1), complex(1.5, 1.5), least, complex(inf, inf)},
		{complex(1, 1), complex(1, 1), least, complex(inf, inf)},
		{complex(1, 1), complex(2, 1), 0x1p-127, complex(0x1p127, 0)},
		{complex(1, 1), complex(3, 1), 0x1p-127, complex(inf, inf)},
		{complex(1, 1), complex(1, 3), 0x1p-127, complex(inf, inf)},
		{complex(1, 1), complex(2, 3), huge, complex(0x1p-128, 0x1p-127)},
		// 1 divided by the tick is rounded before it is multiplied.
		{complex(0, 0), complex(0.375, 1.625), 11, complex(times(0.375, fromBits(0x3dba2e8c)), times(1.625, fromBits(0x3dba2e8c)))},
	} {
		got, ok := impl.SpeedBetween(g, at(c.before), at(c.after), c.tick)
		wantFiniteComplex(t, fmt.Sprintf("SpeedBetween %v", c), got, ok, c.want)
	}
}

func TestWaysAgainstOtherNumbers(t *testing.T) {
	s := newSource()
	for range 10000 {
		g, list, tick := s.grid(), s.particles(2), s.number()
		if s.Intn(4) == 0 {
			list[1].At, tick = complex(s.finiteBits(), s.finiteBits()), s.finiteBits()
		}
		want, _ := impl.WayBetween(g, list[0].At, list[1].At)
		way, ok := impl.WayOfLeap(g, list[0], list[1])
		wantFiniteComplex(t, inGrid("WayOfLeap", g, list), way, ok, want)
		speed, ok := impl.SpeedBetween(g, list[0], list[1], tick)
		wantFiniteComplex(t, inGrid("SpeedBetween", g, list, tick), speed, ok, scaledWanted(want, over(1, tick)))
	}
}

// Between both ends of a leap, a particle has been as fast as it is behind it.
func TestSpeedBetweenLeaps(t *testing.T) {
	s := newSource()
	for range 2000 {
		a := s.gentle()
		a.tick += 0.6
		a.p.Speed = complex(real(a.p.Speed)/2, imag(a.p.Speed)/2)
		after, one := impl.LeapOnce(a.g, a.p, a.x, a.y, 0, a.tick)
		speed, two := impl.SpeedBetween(a.g, a.p, after, a.tick)
		wantEqual(t, "LeapOnce and SpeedBetween succeed", one && two, true)
		if way := math.Abs(float64(max(real(after.Speed), imag(after.Speed), -real(after.Speed), -imag(after.Speed)) * a.tick)); way < 1.9 {
			wantNearby(t, fmt.Sprintf("the speed between %v", a), speed, after.Speed, 1e-4)
		}
	}
}

func TestLongestLeap(t *testing.T) {
	huge, inf := float32(math.MaxFloat32), infinity()
	for _, c := range []struct {
		speeds []complex64
		tick   float32
		want   float32
	}{
		{nil, 1, 0},
		{nil, -1, 0},
		{[]complex64{0}, 1, 0},
		{[]complex64{complex(minusZero(), minusZero())}, 1, 0},
		{[]complex64{complex(3, 4)}, 0.5, 2.5},
		{[]complex64{complex(3, -4)}, -0.5, 2.5},
		{[]complex64{complex(-3, -4)}, 0, 0},
		{[]complex64{1, complex(3, 4), 2}, 1, 5},
		{[]complex64{complex(-6, 8), complex(3, 4), 2}, 1, 10},
		{[]complex64{1, 2, complex(0, -7)}, 1, 7},
		{[]complex64{complex(huge, 0), 2}, 1, huge},
		{[]complex64{1, complex(huge, 0), 2}, above(1), inf},
		{[]complex64{complex(huge, huge), 2}, 1, inf},
		{[]complex64{2, complex(0, -huge)}, -2, inf},
		{[]complex64{complex(huge, huge), complex(-huge, 0)}, 0, 0},
		// The product is rounded before the length is told.
		{[]complex64{complex(fromBits(3), fromBits(1))}, 0.5, fromBits(2)},
		{repeated(complex64(complex(0, 2)), 64), 3, 6},
	} {
		var list []impl.Particle
		for _, speed := range c.speeds {
			list = append(list, pulled(1, speed))
		}
		got, ok := impl.LongestLeap(list, c.tick)
		wantFiniteNumber(t, fmt.Sprintf("LongestLeap %v", c), got, ok, c.want)
	}
}

func TestLongestLeapAgainstOtherNumbers(t *testing.T) {
	s := newSource()
	for range 3000 {
		list, tick, want := s.particles(s.Intn(65)), s.number(), float32(0)
		if s.Intn(4) == 0 {
			tick = s.finiteBits()
		}
		for _, p := range list {
			want = max(want, longWanted(scaledWanted(p.Speed, tick)))
		}
		got, ok := impl.LongestLeap(list, tick)
		wantFiniteNumber(t, fmt.Sprintf("LongestLeap(%v, %v)", list, tick), got, ok, want)
	}
}

func wantTwoFields(t *testing.T, what string, x, y []float32, ok bool, wantX, wantY []float32) {
	t.Helper()
	wantField(t, what+", the first", x, wantX)
	wantField(t, what+", the second", y, wantY)
	wantEqual(t, what+" succeeds", ok, true)
}

func TestEvenField(t *testing.T) {
	for _, g := range allGrids() {
		points := int(g.Wide * g.High)
		for _, value := range []complex64{0, complex(2, -3), complex(minusZero(), 1), complex(0, minusZero()), complex(math.MaxFloat32, -fromBits(1))} {
			x, y, ok := impl.EvenField(g, value)
			wantTwoFields(t, inGrid("EvenField", g, value), x, y, ok, repeated(real(value), points), repeated(imag(value), points))
		}
	}
}

func TestSpringField(t *testing.T) {
	for _, g := range allGrids() {
		for _, stiff := range []float32{0, minusZero(), 1, -1, 2, 0.1, -3.3, 1e30, fromBits(1), -fromBits(3)} {
			var wantX, wantY []float32
			for i := range g.Wide * g.High {
				wantX = append(wantX, times(stiff, float32(float64(g.Wide)/2-float64(i%g.Wide))))
				wantY = append(wantY, times(stiff, float32(float64(g.High)/2-float64(i/g.Wide))))
			}
			x, y, ok := impl.SpringField(g, stiff)
			wantTwoFields(t, inGrid("SpringField", g, stiff), x, y, ok, wantX, wantY)
		}
	}
	g := impl.Grid{Wide: 5, High: 4}
	x, y, ok := impl.SpringField(g, -2)
	row := []float32{-5, -3, -1, 1, 3}
	wantX := append(append(append(append([]float32{}, row...), row...), row...), row...)
	wantY := []float32{-4, -4, -4, -4, -4, -2, -2, -2, -2, -2, minusZero(), minusZero(), minusZero(), minusZero(), minusZero(), 2, 2, 2, 2, 2}
	wantTwoFields(t, "SpringField of -2", x, y, ok, wantX, wantY)
}

// The corners at the edges 0 have the greatest numbers, and fail first.
func TestSpringFieldsThatAreNotFinite(t *testing.T) {
	for _, g := range allGrids() {
		half := float64(max(g.Wide, g.High)) / 2
		most := float32(math.MaxFloat32 / half)
		for float64(most)*half > math.MaxFloat32 {
			most = below(most)
		}
		x, y, ok := impl.SpringField(g, most)
		wantEqual(t, inGrid("SpringField succeeds", g, most), fmt.Sprint(len(x), len(y), ok), fmt.Sprint(g.Wide*g.High, g.Wide*g.High, true))
		for _, stiff := range []float32{most * 1.0001, -most * 1.0001, math.MaxFloat32, -math.MaxFloat32} {
			wantFailures(t, []badCall{{inGrid("SpringField", g, stiff), call2(impl.SpringField(g, stiff))}})
		}
	}
}
