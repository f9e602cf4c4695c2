package tests

import (
	"fmt"
	"math"
	"slices"
	"testing"

	"loop.example/g01226/impl"
)

// flying is a particle at a place along X, with a speed along X, whose other
// numbers stay as they are.
func flying(x, speed float32) impl.Particle {
	return impl.Particle{At: complex(x, -7), Speed: complex(speed, minusZero()), Charge: 3, Mass: 2}
}

func TestExampleOfWalls(t *testing.T) {
	got, ok := impl.ReflectAt(flying(-1, -4), 0, 5, 1)
	wantEqual(t, "ReflectAt", wordOfOne(got, ok), wordOfOne(flying(1, 4), true))
}

func TestReflectAt(t *testing.T) {
	const huge = math.MaxFloat32
	least := fromBits(1)
	for _, c := range []struct {
		x, speed, low, high, keep float32
		wantX, wantSpeed          float32
		thrown                    int64
	}{
		// Between walls, and at one of them, all stays as it is.
		{1, 3, 0, 2, 0.5, 1, 3, 0},
		{0, -3, 0, 2, 0.5, 0, -3, 0},
		{2, 3, 0, 2, 0.5, 2, 3, 0},
		{minusZero(), minusZero(), 0, 2, 0.5, minusZero(), minusZero(), 0},
		{0, 1, minusZero(), 2, 0.5, 0, 1, 0},
		{0, 1, -2, minusZero(), 0.5, 0, 1, 0},
		{above(-3), 1, -3, -2, 0, above(-3), 1, 0},
		{huge, 1, -huge, huge, 0, huge, 1, 0},
		{-huge, huge, -huge, huge, 5, -huge, huge, 0},
		{1, 1, 1, above(1), 2, 1, 1, 0},
		{above(1), 1, 1, above(1), 2, above(1), 1, 0},
		// Just beyond a wall.
		{below(1), -1, 1, 2, 1, plus(1, 0x1p-24), 1, 1},
		{above(2), 1, 1, 2, 1, below(below(2)), -1, 1},
		{-least, -1, 0, 1, 1, least, 1, 1},
		{above(1), 1, 0, 1, 1, below(below(1)), -1, 1},
		{0, 1, least, 1, 1, fromBits(2), -1, 1},
		// Beyond it, whichever way they fly.
		{-1, -4, 0, 2, 0.5, 1, 2, 1},
		{-1, 4, 0, 2, 0.5, 1, -2, 1},
		{3, 4, 0, 2, 0.25, 1, -1, 1},
		{3, -4, 0, 2, 0.25, 1, 1, 1},
		{-7.5, 1, -5, -4, 1, -2.5, -1, 1},
		// Only once, also where another wall or the same one is then behind.
		{-10, -4, 0, 2, 1, 10, 4, 1},
		{10, 4, 0, 2, 1, -6, -4, 1},
		{5, 1, 0.5, 1, 1, -3, -1, 1},
		// Keeps of zero, less than 0 and greater than 1.
		{-1, -4, 0, 2, 0, 1, 0, 1},
		{-1, 4, 0, 2, 0, 1, minusZero(), 1},
		{-1, -4, 0, 2, minusZero(), 1, minusZero(), 1},
		{3, 4, 0, 2, minusZero(), 1, 0, 1},
		{-1, -4, 0, 2, -0.5, 1, -2, 1},
		{3, 4, 0, 2, -3, 1, 12, 1},
		{-1, -4, 0, 2, 3, 1, 12, 1},
		{-1, 0, 0, 2, 1, 1, minusZero(), 1},
		{-1, minusZero(), 0, 2, 1, 1, 0, 1},
		{-1, minusZero(), 0, 2, -1, 1, minusZero(), 1},
		{-1, -0.1, 0, 2, 0.1, 1, times(0.1, 0.1), 1},
		// Numbers that are rounded.
		{0.1, 1, 0.3, 1, 1, minus(plus(0.3, 0.3), 0.1), -1, 1},
		{-0x1p25, 1, 1, 2, 1, 0x1p25, -1, 1},
		{-least, least, 0, 2, 0.5, least, minusZero(), 1},
		{-least, fromBits(3), 0, 2, 0.5, least, -fromBits(2), 1},
		// Great numbers that stay finite.
		{-huge, 1, -huge / 2, huge, 1, 0, -1, 1},
		{huge, 1, -huge, huge / 2, 1, 0, -1, 1},
		{-huge / 2, 1, huge / 4, huge, 1, huge, -1, 1},
		{huge, huge, 0, 1, 1, -huge, -huge, 1},
		{huge, huge / 2, 0, 1, 2, -huge, -huge, 1},
	} {
		p, want := flying(c.x, c.speed), flying(c.wantX, c.wantSpeed)
		what := fmt.Sprintf("ReflectAt %v", c)
		got, ok := impl.ReflectAt(p, c.low, c.high, c.keep)
		wantEqual(t, what, wordOfOne(got, ok), wordOfOne(want, true))
		list, thrown, ok := impl.ReflectAll([]impl.Particle{p}, c.low, c.high, c.keep)
		wantEqual(t, what+" in a list", wordOfList(ok, list, thrown), wordOfList(true, []impl.Particle{want}, c.thrown))
	}
}

// Places, speeds, and twice the place of a wall must be finite, for each particle.
func TestReflectedNumbersMustBeFinite(t *testing.T) {
	const huge = math.MaxFloat32
	for _, c := range []struct{ x, speed, low, high, keep float32 }{
		{-huge, 1, huge / 2, huge, 1},
		{-3e38, 1, -2e38, 0, 1},
		{3e38, 1, 0, 2e38, 1},
		{-2e38, 1, 1e38, 2e38, 1},
		{huge, 1, -huge, -1e38, 1},
		{-1, huge, 0, 1, 2},
		{2, -huge, 0, 1, -2},
		{2, 1e20, 0, 1, 1e20},
	} {
		p := flying(c.x, c.speed)
		what := fmt.Sprintf(" %v", c)
		wantFailures(t, []badCall{{"ReflectAt" + what, call1(impl.ReflectAt(p, c.low, c.high, c.keep))}})
		for i := range 3 {
			list := repeated(flying(c.low, 1), 3)
			list[i] = p
			wantFailures(t, []badCall{{"ReflectAll" + what, call2(impl.ReflectAll(list, c.low, c.high, c.keep))}})
		}
	}
	wantSuccesses(t, []badCall{
		{"ReflectAt between far walls", call1(impl.ReflectAt(flying(2e38, 1), -3e38, 3e38, 1))},
		{"ReflectAt with a great speed between walls", call1(impl.ReflectAt(flying(0, huge), 0, 1, 2))},
	})
}

func TestReflectAll(t *testing.T) {
	list := []impl.Particle{flying(-1, 1), flying(0, 2), flying(5, 3), flying(1, -4), flying(1.25, 5), flying(-0.5, -6)}
	got, thrown, ok := impl.ReflectAll(list, 0, 1, 0.5)
	want := []impl.Particle{flying(1, -0.5), flying(0, 2), flying(-3, -1.5), flying(1, -4), flying(0.75, -2.5), flying(0.5, 3)}
	wantEqual(t, "ReflectAll", wordOfList(ok, got, thrown), wordOfList(true, want, 4))
	for _, list := range [][]impl.Particle{nil, {}} {
		got, thrown, ok = impl.ReflectAll(list, 0, 1, 0.5)
		wantEqual(t, "ReflectAll of none", wordOfList(ok, got, thrown), wordOfList(true, nil, 0))
	}
	got, thrown, ok = impl.ReflectAll(repeated(flying(2, 1), 64), 0, 1, 1)
	wantEqual(t, "ReflectAll of 64", wordOfList(ok, got, thrown), wordOfList(true, repeated(flying(0, -1), 64), 64))
}

// Who is not farther beyond a wall than the other one is then between them, flies
// the other way, and as fast, if all is kept.
func TestWallsThrowBack(t *testing.T) {
	s := newSource()
	for range 500 {
		low := float32(s.Intn(64)-32) / 8
		wide := float32(1+s.Intn(64)) / 8
		var list []impl.Particle
		beyond := int64(0)
		for range s.Intn(65) {
			p := s.gentle().p
			p.At = complex(low+wide*float32(s.Intn(193)-64)/64, imag(p.At))
			if x := real(p.At); x < low || x > low+wide {
				beyond++
			}
			list = append(list, p)
		}
		got, thrown, ok := impl.ReflectAll(list, low, low+wide, 1)
		wantEqual(t, "ReflectAll succeeds", ok, true)
		wantEqual(t, "how many are thrown back", thrown, beyond)
		wantEqual(t, "how many there are", len(got), len(list))
		for i, p := range list {
			x, fromX := real(got[i].At), real(p.At)
			if x < low || x > low+wide || min(abs(x-fromX-2*(low-fromX)), abs(x-fromX-2*(low+wide-fromX)), abs(x-fromX)) != 0 {
				t.Errorf("ReflectAll(%v, %v) brings %v to %v", low, low+wide, fromX, x)
			}
			wantEqual(t, "whether the speed is turned", real(got[i].Speed) == -real(p.Speed), x != fromX)
			got[i].At, got[i].Speed = complex(fromX, imag(got[i].At)), complex(real(p.Speed), imag(got[i].Speed))
		}
		wantParticles(t, "ReflectAll but for X", got, list)
	}
}

func abs(x float32) float32 {
	return max(x, -x)
}

func TestReflectAtIsThatOfAll(t *testing.T) {
	s := newSource()
	for range 2000 {
		c := s.anyCollision(1)
		got, ok := impl.ReflectAt(c.list[0], c.low, c.high, c.keep)
		list, thrown, all := impl.ReflectAll(c.list, c.low, c.high, c.keep)
		wantEqual(t, "ReflectAt and ReflectAll", ok, all)
		wantParticles(t, "ReflectAt", []impl.Particle{got}, []impl.Particle{firstOf(list)})
		wantEqual(t, "how many are thrown back", thrown == 1, ok && !sameParts(c.list[0].At, got.At))
	}
}

func TestTakeOutside(t *testing.T) {
	inX := func(x, charge float32) impl.Particle { return particleAt(complex(x, 9), charge) }
	for _, c := range []struct {
		what      string
		list      []impl.Particle
		low, high float32
		stay      []int
		taken     float32
	}{
		{"none", nil, 0, 1, nil, 0},
		{"those inside", []impl.Particle{inX(0.5, 3), inX(0.25, -7)}, 0, 1, []int{0, 1}, 0},
		{"those at walls", []impl.Particle{inX(1, 3), inX(0, -7), inX(minusZero(), 1)}, 0, 1, []int{0, 1, 2}, 0},
		{"those at a wall with a sign", []impl.Particle{inX(0, 3), inX(minusZero(), 1)}, minusZero(), 1, []int{0, 1}, 0},
		{"those just beyond", []impl.Particle{inX(above(1), 3), inX(below(1), 5), inX(-fromBits(1), -7)}, 0, 1, []int{1}, -4},
		{"some", []impl.Particle{inX(-2, 1), inX(0.5, 2), inX(9, 4), inX(0.75, 8), inX(1.5, 16)}, 0, 1, []int{1, 3}, 21},
		{"all", []impl.Particle{inX(-2, 1), inX(9, 4)}, 0, 1, nil, 5},
		{"charges of minus zero", []impl.Particle{inX(-2, minusZero()), inX(9, minusZero())}, 0, 1, nil, 0},
		{"small charges first", []impl.Particle{inX(-2, 1), inX(9, 1), inX(-1, 0x1p24)}, 0, 1, nil, 0x1p24 + 2},
		{"small charges last", []impl.Particle{inX(-1, 0x1p24), inX(-2, 1), inX(9, 1)}, 0, 1, nil, 0x1p24},
		{"charges that cancel out", []impl.Particle{inX(-1, 1e30), inX(-2, 1), inX(9, -1e30)}, 0, 1, nil, 0},
		{"great charges", []impl.Particle{inX(-1, math.MaxFloat32), inX(-2, -math.MaxFloat32), inX(9, math.MaxFloat32)}, 0, 1, nil, math.MaxFloat32},
		{"great charges inside", []impl.Particle{inX(1, math.MaxFloat32), inX(0, math.MaxFloat32), inX(9, 5)}, 0, 1, []int{0, 1}, 5},
		{"those between far walls", []impl.Particle{inX(math.MaxFloat32, 1), inX(-math.MaxFloat32, 2)}, -math.MaxFloat32, math.MaxFloat32, []int{0, 1}, 0},
		{"64", repeated(inX(2, 0.25), 64), 0, 1, nil, 16},
	} {
		var stay []impl.Particle
		for _, i := range c.stay {
			stay = append(stay, c.list[i])
		}
		got, taken, ok := impl.TakeOutside(c.list, c.low, c.high)
		wantEqual(t, "TakeOutside, "+c.what+", succeeds", ok, true)
		wantParticles(t, "TakeOutside, "+c.what, got, stay)
		wantNumber(t, "TakeOutside, "+c.what+", the charge", taken, c.taken)
	}
}

// A sum of charges that is not finite stays so, whatever comes then.
func TestTakenChargesMustBeFinite(t *testing.T) {
	const huge = math.MaxFloat32
	for _, charges := range [][]float32{{huge, huge}, {-huge, -huge}, {huge, huge, -huge}, {huge, 1, huge, -huge, -huge, 2}, {1e38, 1e38, 1e38, 1e38}} {
		list := charged(charges...)
		wantFailures(t, []badCall{
			{"TakeOutside below", call2(impl.TakeOutside(list, 1e4, 1e5))},
			{"TakeOutside above", call2(impl.TakeOutside(list, -1e5, -1e4))},
		})
		got, taken, ok := impl.TakeOutside(list, -1e5, 1e5)
		wantEqual(t, "TakeOutside of none", ok && sameBits(taken, 0), true)
		wantParticles(t, "TakeOutside of none", got, list)
	}
}

// No charge is lost: what stays and what is taken is what was there.
func TestTakenCharges(t *testing.T) {
	s := newSource()
	for range 500 {
		list := s.exactParticles(s.Intn(65))
		low := float32(s.Intn(20)) - 10
		stay, taken, ok := impl.TakeOutside(list, low, low+4)
		before, one := impl.ChargeOf(list)
		after, two := impl.ChargeOf(stay)
		wantEqual(t, "TakeOutside and ChargeOf succeed", ok && one && two, true)
		wantEqual(t, "the charge that stays, and the one that is taken", after+taken, before)
		wantParticles(t, "TakeOutside", stay, slices.DeleteFunc(slices.Clone(list), func(p impl.Particle) bool { return real(p.At) < low || real(p.At) > low+4 }))
	}
}
