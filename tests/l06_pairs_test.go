package tests

import (
	"fmt"
	"math"
	"testing"

	"loop.example/g01226/impl"
)

// met is a particle whose other numbers tell it apart, with a speed.
func met(mass float32, speed complex64) impl.Particle {
	return impl.Particle{At: complex(mass, -2), Speed: speed, Charge: 3 - mass, Mass: mass}
}

func withSpeed(p impl.Particle, speed complex64) impl.Particle {
	p.Speed = speed
	return p
}

func wantTwo(t *testing.T, what string, a, b impl.Particle, ok bool, wantA, wantB impl.Particle) {
	t.Helper()
	wantEqual(t, what+" succeeds", ok, true)
	wantParticles(t, what, []impl.Particle{a, b}, []impl.Particle{wantA, wantB})
}

func TestExamplesOfPairs(t *testing.T) {
	a, b := met(1, 2), met(1, 0)
	wantEqual(t, "PairSpeed", wordOfComplex(impl.PairSpeed(a, b)), wordOf(true, 1, 0))
	c, d, ok := impl.BumpSpeeds(a, b)
	wantTwo(t, "BumpSpeeds", c, d, ok, withSpeed(a, 0), withSpeed(b, 2))
}

func TestPairSpeed(t *testing.T) {
	const huge = math.MaxFloat32
	least := fromBits(1)
	for _, c := range []struct {
		a, b impl.Particle
		want complex64
	}{
		{met(1, 0), met(1, 0), 0},
		{met(1, complex(1, 2)), met(1, complex(3, -2)), 2},
		{met(1, complex(8, -4)), met(3, complex(0, 4)), complex(2, 2)},
		{met(3, complex(0, 4)), met(1, complex(8, -4)), complex(2, 2)},
		{met(0.5, 5), met(0.75, 0), 2},
		{met(2, complex(7, -3)), met(2, complex(7, -3)), complex(7, -3)},
		{met(1, complex(minusZero(), 1)), met(1, complex(minusZero(), -1)), 0},
		{met(1, complex(minusZero(), minusZero())), met(2, complex(minusZero(), minusZero())), complex(minusZero(), 0)},
		{met(1, complex(0, minusZero())), met(2, complex(minusZero(), minusZero())), complex(0, minusZero())},
		// A mass that is lost in the sum, and a speed that is lost.
		{met(0x1p24, 1), met(1, 0), 1},
		{met(0x1p24, 0), met(1, 0x1p24), 1},
		{met(1e30, complex(3, 4)), met(1e-30, complex(-9, 9)), complex(over(times(1e30, 3), 1e30), over(times(1e30, 4), 1e30))},
		// The products are rounded before they are added, and both masses are.
		{met(1+0x1p-23, 1+0x1p-23), met(1, 0), 0.5 + 0x1p-23},
		{met(1+0x1p-12, 1+0x1p-12), met(1+0x1p-12, -1-0x1p-12), 0},
		{met(huge/2, 2), met(huge/4, 0), complex(over(huge, plus(huge/2, huge/4)), 0)},
		{met(least, 1), met(least, 3), 2},
		{met(least, 0.5), met(least, 0.5), 0},
		{met(fromBits(2), 0.5), met(fromBits(2), 0.5), 0.5},
	} {
		got, ok := impl.PairSpeed(c.a, c.b)
		wantEqual(t, fmt.Sprintf("PairSpeed of %v and %v", c.a, c.b), wordOfComplex(got, ok), wordOf(true, partsOf(c.want)...))
	}
}

// A sum of masses or of products that is not finite is no divisor and no speed.
func TestPairSpeedsMustBeFinite(t *testing.T) {
	const huge = math.MaxFloat32
	for _, c := range [][2]impl.Particle{
		{met(huge, 0), met(huge, 0)},
		{met(huge, 1), met(huge, -1)},
		{met(huge, 2), met(1, 0)},
		{met(1, 0), met(huge, complex(0, 2))},
		{met(2, huge), met(2, -huge)},
		{met(2, complex(0, huge)), met(1, 0)},
		{met(1, huge), met(1, huge)},
		{met(1, complex(1, -huge)), met(1, complex(1, -huge))},
	} {
		wantFailures(t, callsOfTwo(c[0], c[1], 0.25))
		wantFailures(t, callsOfTwo(c[1], c[0], 0.25))
	}
}

// callsOfTwo are all functions that need a pair speed.
func callsOfTwo(a, b impl.Particle, turns float32) []badCall {
	what := fmt.Sprintf(" of %v and %v", a, b)
	return []badCall{
		{"PairSpeed" + what, call1(impl.PairSpeed(a, b))},
		{"MeetSpeeds" + what, call2(impl.MeetSpeeds(a, b, turns))},
		{"BumpSpeeds" + what, call2(impl.BumpSpeeds(a, b))},
		{"MergeParticles" + what, call1(impl.MergeParticles(a, b))},
	}
}

// Here the pair speed is finite, but the difference of both speeds is not, or
// what a turn makes of it, or a new speed.
func TestMetSpeedsMustBeFinite(t *testing.T) {
	const huge = math.MaxFloat32
	for _, c := range []struct {
		a, b  impl.Particle
		turns []float32
	}{
		{met(1, huge), met(1, -huge), []float32{0, 0.25, 0.5, 0.3}},
		{met(0.5, complex(1, huge)), met(0.25, complex(1, -huge)), []float32{0, 0.25, 0.5, 0.3}},
		{met(0.25, complex(huge, huge)), met(0.0625, 0), []float32{0.125, -0.125, 0.375, 0.1}},
		{met(0x1p-10, complex(0.95*huge, 0.95*huge)), met(1, complex(0.3*huge, 0.3*huge)), []float32{-0.125, 0.125, 0.05}},
	} {
		_, ok := impl.PairSpeed(c.a, c.b)
		wantEqual(t, fmt.Sprintf("whether %v has a pair speed", c), ok, true)
		for _, turns := range c.turns {
			wantFailures(t, []badCall{
				{fmt.Sprintf("MeetSpeeds(%v, %v, %v)", c.a, c.b, turns), call2(impl.MeetSpeeds(c.a, c.b, turns))},
				{fmt.Sprintf("MeetSpeeds(%v, %v, %v)", c.b, c.a, turns), call2(impl.MeetSpeeds(c.b, c.a, turns))},
			})
		}
	}
	wantFailures(t, []badCall{{"BumpSpeeds", call2(impl.BumpSpeeds(met(1, huge), met(1, -huge)))}})
	wantSuccesses(t, []badCall{
		{"MeetSpeeds of great speeds", call2(impl.MeetSpeeds(met(0.25, complex(huge, huge)), met(0.0625, 0), 0))},
		{"MeetSpeeds of great speeds that are turned back", call2(impl.MeetSpeeds(met(0x1p-10, complex(0.95*huge, 0.95*huge)), met(1, complex(0.3*huge, 0.3*huge)), 0.5))},
		{"BumpSpeeds of great speeds", call2(impl.BumpSpeeds(met(1, huge), met(1, 0)))},
	})
}

// Quarters of a turn are exact, and so are these speeds.
func TestMeetSpeeds(t *testing.T) {
	a, b := met(1, complex(4, 1)), met(3, complex(0, -3))
	for _, c := range []struct {
		turns       float32
		first, last complex64
	}{
		{0, complex(4, 1), complex(0, -3)},
		{minusZero(), complex(4, 1), complex(0, -3)},
		{0.25, complex(-2, 1), complex(2, -3)},
		{0.5, complex(-2, -5), complex(2, -1)},
		{0.75, complex(4, -5), complex(0, -1)},
		{1, complex(4, 1), complex(0, -3)},
		{1.25, complex(-2, 1), complex(2, -3)},
		{2.5, complex(-2, -5), complex(2, -1)},
		{-0.25, complex(4, -5), complex(0, -1)},
		{-0.5, complex(-2, -5), complex(2, -1)},
		{-0.75, complex(-2, 1), complex(2, -3)},
		{-1, complex(4, 1), complex(0, -3)},
		{-7.25, complex(4, -5), complex(0, -1)},
		{1 << 22, complex(4, 1), complex(0, -3)},
		{1<<21 + 0.25, complex(-2, 1), complex(2, -3)},
		{0x1p52, complex(4, 1), complex(0, -3)},
		{-math.MaxFloat32, complex(4, 1), complex(0, -3)},
	} {
		x, y, ok := impl.MeetSpeeds(a, b, c.turns)
		wantTwo(t, fmt.Sprintf("MeetSpeeds(%v)", c.turns), x, y, ok, withSpeed(a, c.first), withSpeed(b, c.last))
		y, x, ok = impl.MeetSpeeds(b, a, c.turns)
		wantTwo(t, fmt.Sprintf("MeetSpeeds(%v), the other way", c.turns), x, y, ok, withSpeed(a, c.first), withSpeed(b, c.last))
	}
}

// An eighth of a turn turns the difference of both speeds by as much.
func TestTurnsOfMeetings(t *testing.T) {
	root := math.Sqrt(0.5)
	for k, want := range []complex128{complex(root, root), complex(-root, root), complex(-root, -root), complex(root, -root)} {
		turns := 0.125 + 0.25*float32(k)
		for _, whole := range []float32{0, 1, -1, 5, -100} {
			a, b, ok := impl.MeetSpeeds(met(1, 1), met(1, -1), turns+whole)
			wantEqual(t, "MeetSpeeds succeeds", ok, true)
			wantNearby(t, fmt.Sprintf("MeetSpeeds, %v turns, the first one", turns+whole), a.Speed, complex64(want), 1e-6)
			wantNearby(t, fmt.Sprintf("MeetSpeeds, %v turns, the second one", turns+whole), b.Speed, -complex64(want), 1e-6)
		}
	}
}

// Who is as fast as the other one stays so, nearly, for any turns and masses.
func TestEqualSpeedsStay(t *testing.T) {
	s := newSource()
	for range 1000 {
		speed := complex(s.number(), s.number())
		a, b := met(1+float32(s.Float64()), speed), met(float32(math.Ldexp(1, s.Intn(60)-30)), speed)
		x, y, ok := impl.MeetSpeeds(a, b, s.number())
		wantEqual(t, "MeetSpeeds succeeds", ok, true)
		wantNearby(t, "MeetSpeeds of equal speeds, the first one", x.Speed, speed, 1e-6*length(speed))
		wantNearby(t, "MeetSpeeds of equal speeds, the second one", y.Speed, speed, 1e-6*length(speed))
	}
}

// A very light particle is thrown back by a heavy one as by a wall.
func TestMassesThatAreVeryDifferent(t *testing.T) {
	for _, c := range []struct{ light, heavy float32 }{{1e-30, 1}, {1, 1e30}, {fromBits(1), 1}, {1e-20, 1e15}, {1, 0x1p30}} {
		light, heavy := met(c.light, complex(5, 1)), met(c.heavy, complex(1, 1))
		a, b, ok := impl.BumpSpeeds(light, heavy)
		wantEqual(t, "BumpSpeeds succeeds", ok, true)
		wantNearby(t, fmt.Sprintf("BumpSpeeds of %v and %v, the light one", c.light, c.heavy), a.Speed, complex(-3, 1), 1e-5)
		wantNearby(t, fmt.Sprintf("BumpSpeeds of %v and %v, the heavy one", c.light, c.heavy), b.Speed, complex(1, 1), 1e-5)
		a, b, ok = impl.BumpSpeeds(heavy, light)
		wantEqual(t, "BumpSpeeds succeeds", ok, true)
		wantNearby(t, fmt.Sprintf("BumpSpeeds of %v and %v, the heavy one", c.heavy, c.light), a.Speed, complex(1, 1), 1e-5)
		wantNearby(t, fmt.Sprintf("BumpSpeeds of %v and %v, the light one", c.heavy, c.light), b.Speed, complex(-3, 1), 1e-5)
	}
}

// Equal masses thrown back change their speeds, and another bump brings them back.
func TestBumpSpeeds(t *testing.T) {
	for _, c := range []struct{ a, b, first, last complex64 }{
		{2, 0, 0, 2},
		{complex(3, -1), complex(-5, 7), complex(-5, 7), complex(3, -1)},
		{complex(0, 4), complex(0, 4), complex(0, 4), complex(0, 4)},
		{complex(1, 1), complex(-1, -1), complex(-1, -1), complex(1, 1)},
	} {
		for _, mass := range []float32{0.25, 1, 8} {
			a, b := met(mass, c.a), met(mass, c.b)
			x, y, ok := impl.BumpSpeeds(a, b)
			wantTwo(t, "BumpSpeeds", x, y, ok, withSpeed(a, c.first), withSpeed(b, c.last))
			x, y, ok = impl.BumpSpeeds(x, y)
			wantTwo(t, "BumpSpeeds again", x, y, ok, a, b)
		}
	}
	s := newSource()
	for range 1000 {
		c := s.anyCollision(2)
		a, b := c.two()
		wantEqual(t, "BumpSpeeds", wordOfTwo(impl.BumpSpeeds(a, b)), wordOfTwo(impl.MeetSpeeds(a, b, 0.5)))
	}
}

// sumsOver are the momentum and the energy of some particles, and how great sums
// of their parts are.
func sumsOver(list ...impl.Particle) (momentum complex128, energy, most float64) {
	for _, p := range list {
		m, v := float64(p.Mass), complex128(p.Speed)
		momentum += complex(m, 0) * v
		energy += m * (real(v)*real(v) + imag(v)*imag(v)) / 2
		most += m * length(p.Speed)
	}
	return momentum, energy, most
}

func wantKept(t *testing.T, what string, before, after []impl.Particle, part float64) {
	t.Helper()
	momentum, energy, most := sumsOver(before...)
	other, energyAfter, _ := sumsOver(after...)
	if far := length(complex64(other - momentum)); !(far <= part*most) {
		t.Errorf("%s: the momentum was %v and is %v", what, momentum, other)
	}
	if !(math.Abs(energyAfter-energy) <= part*energy) {
		t.Errorf("%s: the energy was %v and is %v", what, energy, energyAfter)
	}
}

func TestMeetingsKeepMomentumAndEnergy(t *testing.T) {
	s := newSource()
	for range 3000 {
		a, b := s.gentle().p, s.gentle().p
		b.Mass *= float32(math.Ldexp(1, s.Intn(12)-6))
		for _, turns := range []float32{0, 0.5, 1, float32(s.Float64()), -float32(s.Float64()), s.number()} {
			x, y, ok := impl.MeetSpeeds(a, b, turns)
			wantEqual(t, "MeetSpeeds succeeds", ok, true)
			wantKept(t, fmt.Sprintf("MeetSpeeds(%v, %v, %v)", a, b, turns), []impl.Particle{a, b}, []impl.Particle{x, y}, 1e-5)
			wantParticles(t, "MeetSpeeds but for the speeds", []impl.Particle{withSpeed(x, a.Speed), withSpeed(y, b.Speed)}, []impl.Particle{a, b})
		}
		x, y, ok := impl.BumpSpeeds(a, b)
		wantEqual(t, "BumpSpeeds succeeds", ok, true)
		wantKept(t, fmt.Sprintf("BumpSpeeds(%v, %v)", a, b), []impl.Particle{a, b}, []impl.Particle{x, y}, 1e-5)
	}
}

// Both particles are as fast to each other as before, and nobody is where the
// pair speed is not.
func TestMeetingsKeepTheDifferenceOfSpeeds(t *testing.T) {
	s := newSource()
	for range 1000 {
		a, b, turns := s.gentle().p, s.gentle().p, float32(s.Float64()*8-4)
		x, y, _ := impl.MeetSpeeds(a, b, turns)
		wantNear(t, "how fast they are to each other", []float32{float32(length(x.Speed - y.Speed))}, []float32{float32(length(a.Speed - b.Speed))}, 1e-4)
		before, one := impl.PairSpeed(a, b)
		after, two := impl.PairSpeed(x, y)
		wantEqual(t, "PairSpeed succeeds", one && two, true)
		wantNearby(t, "PairSpeed of those that have met", after, before, 1e-5)
	}
}
