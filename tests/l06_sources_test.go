package tests

import (
	"fmt"
	"math"
	"testing"

	"loop.example/g01226/impl"
)

// wantSeeded compares particles and the seed behind them.
func wantSeeded(t *testing.T, what string, got []impl.Particle, last int64, ok bool, want []impl.Particle, then int64) {
	t.Helper()
	wantEqual(t, what+" succeeds", ok, true)
	wantParticles(t, what, got, want)
	wantEqual(t, what+", the seed", last, then)
}

// The seed is used four times for each part of a speed, first for the real one.
func TestSpreadSpeedsStepByStep(t *testing.T) {
	s := newSource()
	for _, seed := range []int64{0, 1, 2147483646, 2147483647, 4711} {
		for _, size := range []float32{0, minusZero(), 1, -1, 0.1, 1e-30, -1e30, fromBits(1)} {
			for _, n := range []int{0, 1, 2, 3, 64} {
				list := s.particles(n)
				then := seed
				var want []impl.Particle
				for _, p := range list {
					a, b, c, d := use(t, &then), use(t, &then), use(t, &then), use(t, &then)
					x := times(size, a+b+c+d-2)
					a, b, c, d = use(t, &then), use(t, &then), use(t, &then), use(t, &then)
					want = append(want, withSpeed(p, complex(plus(real(p.Speed), x), plus(imag(p.Speed), times(size, a+b+c+d-2)))))
				}
				got, last, ok := impl.SpreadSpeeds(list, seed, size)
				wantSeeded(t, fmt.Sprintf("SpreadSpeeds(%d, %v)", seed, size), got, last, ok, want, then)
				wantEqual(t, "the seed that is used 8 times for each particle", last, seedBehind(t, seed, 8*n))
			}
		}
	}
}

// With the seed 0, the four numbers are 0, 0.655..., 0.304... and 0.674..., and
// then come 0.106..., 0.516..., 0.489... and 0.602...
func TestSpreadSpeeds(t *testing.T) {
	first := float32((0+21468.0+9988+22117)/32768 - 2)
	second := float32((3498.0+16927+16045+19741)/32768 - 2)
	for _, c := range []struct {
		size  float32
		speed complex64
		want  complex64
	}{
		{1, 0, complex(first, second)},
		{-1, 0, complex(-first, -second)},
		{2, complex(1, -1), complex(plus(1, 2*first), minus(2*second, 1))},
		{0, complex(1, -1), complex(1, -1)},
		{0, complex(minusZero(), minusZero()), complex(minusZero(), minusZero())},
		{0x1p30, complex(1, -1), complex(plus(1, 0x1p30*first), minus(0x1p30*second, 1))},
	} {
		p := withSpeed(ordinaryParticle(), c.speed)
		got, last, ok := impl.SpreadSpeeds([]impl.Particle{p}, 0, c.size)
		wantSeeded(t, fmt.Sprintf("SpreadSpeeds %v", c), got, last, ok, []impl.Particle{withSpeed(p, c.want)}, 1293799192)
	}
	for _, list := range [][]impl.Particle{nil, {}} {
		got, last, ok := impl.SpreadSpeeds(list, 2147483647, 3)
		wantSeeded(t, "SpreadSpeeds of none", got, last, ok, nil, 2147483647)
	}
}

// The speeds of many particles are spread around those that they had.
func TestSpreadsAreAroundSpeeds(t *testing.T) {
	s, sum, squares := newSource(), complex128(0), 0.0
	for range 100 {
		got, _, ok := impl.SpreadSpeeds(repeated(withSpeed(ordinaryParticle(), complex(5, -3)), 64), s.Int63n(1<<31), 0.5)
		wantEqual(t, "SpreadSpeeds succeeds", ok, true)
		for _, p := range got {
			d := p.Speed - complex(5, -3)
			if !(abs(real(d)) <= 1) || !(abs(imag(d)) <= 1) {
				t.Errorf("SpreadSpeeds is as far as %v", d)
			}
			sum += complex128(d) / 6400
			squares += real(complex128(d)) * real(complex128(d)) / 6400
		}
	}
	wantNearby(t, "the mean", complex64(sum), 0, 0.02)
	wantNear(t, "the mean of the squares", []float32{float32(squares)}, []float32{0.5 * 0.5 / 3}, 0.005)
}

func TestSpreadSpeedsMustBeFinite(t *testing.T) {
	const huge = math.MaxFloat32
	for i := range 3 {
		for _, speed := range []complex64{huge, complex(0, huge), -huge, complex(1, -huge)} {
			list := repeated(ordinaryParticle(), 3)
			list[i].Speed = speed
			fails := 0
			for seed := range int64(40) {
				got, last, ok := impl.SpreadSpeeds(list, seed*50000000, 1e38)
				want, then, wanted := spreadWanted(list, seed*50000000, 1e38)
				wantEqual(t, "SpreadSpeeds of a great speed", wordOfList(ok, got, last), wordOfList(wanted, want, then))
				if !ok {
					fails++
				}
			}
			wantEqual(t, "whether there are failures and successes", fails > 0 && fails < 40, true)
		}
	}
	wantFailures(t, []badCall{
		{"SpreadSpeeds far down", call2(impl.SpreadSpeeds([]impl.Particle{withSpeed(ordinaryParticle(), -huge)}, 0, 1e38))},
		{"SpreadSpeeds far up", call2(impl.SpreadSpeeds([]impl.Particle{withSpeed(ordinaryParticle(), huge)}, 0, -1e38))},
	})
}

// Only the imaginary part of At changes, by a number of its own for each.
func TestEmitParticlesStepByStep(t *testing.T) {
	s := newSource()
	for _, seed := range []int64{0, 1, 2147483646, 2147483647, 4711} {
		for _, wide := range []float32{0, minusZero(), 1, -1, 0.1, 16, 1e-30, -1e30, fromBits(1), fromBits(3)} {
			for _, count := range []int64{0, 1, 2, 63, 64} {
				from, then := s.particles(1)[0], seed
				var want []impl.Particle
				for range count {
					p := from
					p.At = complex(real(p.At), plus(imag(p.At), times(wide, use(t, &then)-0.5)))
					want = append(want, p)
				}
				got, last, ok := impl.EmitParticles(seed, count, from, wide)
				wantSeeded(t, fmt.Sprintf("EmitParticles(%d, %d, %v)", seed, count, wide), got, last, ok, want, then)
				wantEqual(t, "the seed that is used once for each particle", last, seedBehind(t, seed, int(count)))
			}
		}
	}
}

func TestEmitParticles(t *testing.T) {
	first, second := float32(-0.5), float32(21468.0/32768-0.5)
	for _, c := range []struct {
		wide          float32
		at, one, next complex64
	}{
		{1, complex(3, 5), complex(3, 4.5), complex(3, 5+second)},
		{-2, complex(3, 5), complex(3, 6), complex(3, 5-2*second)},
		{0, complex(3, 5), complex(3, 5), complex(3, 5)},
		{0, complex(minusZero(), minusZero()), complex(minusZero(), minusZero()), complex(minusZero(), 0)},
		{minusZero(), complex(minusZero(), minusZero()), complex(minusZero(), 0), complex(minusZero(), minusZero())},
		{4, complex(minusZero(), 0), complex(minusZero(), 4*first), complex(minusZero(), 4*second)},
		{1, complex(-1e30, 1e30), complex(-1e30, 1e30), complex(-1e30, 1e30)},
		{1e30, complex(7, 1), complex(7, times(1e30, first)), complex(7, times(1e30, second))},
	} {
		from := ordinaryParticle()
		from.At = c.at
		one, next := from, from
		one.At, next.At = c.one, c.next
		got, last, ok := impl.EmitParticles(0, 2, from, c.wide)
		wantSeeded(t, fmt.Sprintf("EmitParticles %v", c), got, last, ok, []impl.Particle{one, next}, 1406932606)
	}
	got, last, ok := impl.EmitParticles(2147483647, 0, ordinaryParticle(), math.MaxFloat32)
	wantSeeded(t, "EmitParticles, none", got, last, ok, nil, 2147483647)
}

func TestCountsOfEmittedParticles(t *testing.T) {
	for _, count := range []int64{-1, -64, 65, 66, 1 << 32, 1<<32 + 1, math.MaxInt64, math.MinInt64} {
		wantFailures(t, []badCall{{fmt.Sprintf("EmitParticles, %d", count), call2(impl.EmitParticles(1, count, ordinaryParticle(), 1))}})
	}
	for count := range int64(65) {
		list, _, ok := impl.EmitParticles(1, count, ordinaryParticle(), 1)
		wantEqual(t, fmt.Sprintf("EmitParticles, %d, succeeds", count), ok, true)
		wantEqual(t, "how many are emitted", len(list), int(count))
		for _, p := range list {
			if y := imag(p.At) - imag(ordinaryParticle().At); !(y >= -0.5 && y < 0.5) {
				t.Errorf("EmitParticles is as far as %v", y)
			}
		}
	}
}

func TestEmittedPlacesMustBeFinite(t *testing.T) {
	const huge = math.MaxFloat32
	from := ordinaryParticle()
	from.At = complex(1, -huge)
	// The first number of the seed 0 is 0, and the second one greater than 0.5.
	wantFailures(t, []badCall{
		{"EmitParticles, one", call2(impl.EmitParticles(0, 1, from, huge))},
		{"EmitParticles, two", call2(impl.EmitParticles(0, 2, from, huge))},
		{"EmitParticles, the second of two", call2(impl.EmitParticles(0, 2, from, -huge))},
		{"EmitParticles, 64", call2(impl.EmitParticles(0, 64, from, huge))},
	})
	wantSuccesses(t, []badCall{
		{"EmitParticles, none", call2(impl.EmitParticles(0, 0, from, huge))},
		{"EmitParticles, the first of two", call2(impl.EmitParticles(0, 1, from, -huge))},
	})
}

func TestSplitParticle(t *testing.T) {
	for n := int64(1); n <= 16; n++ {
		p := impl.Particle{At: complex(minusZero(), 5), Speed: complex(-3, minusZero()), Charge: -7, Mass: 3}
		part := p
		part.Charge, part.Mass = over(-7, float32(n)), over(3, float32(n))
		got, ok := impl.SplitParticle(p, n)
		wantEqual(t, fmt.Sprintf("SplitParticle(%d)", n), wordOfSome(got, ok), wordOfSome(repeated(part, int(n)), true))
		charge, _ := impl.ChargeOf(got)
		before, _ := impl.MomentumOf([]impl.Particle{p})
		after, _ := impl.MomentumOf(got)
		wantNear(t, "the charge of all parts", []float32{charge}, []float32{-7}, 1e-5)
		wantNearby(t, "the momentum of all parts", after, before, 1e-4)
	}
	for _, n := range []int64{0, -1, -16, 17, 18, 1 << 32, 1<<32 + 1, math.MaxInt64, math.MinInt64} {
		wantFailures(t, []badCall{{fmt.Sprintf("SplitParticle(%d)", n), call1(impl.SplitParticle(ordinaryParticle(), n))}})
	}
}

// A mass that becomes 0 is not valid, while a charge may do so.
func TestSplitMassesMustBeValid(t *testing.T) {
	for n := int64(1); n <= 16; n++ {
		for k := range uint32(20) {
			p := impl.Particle{Charge: -fromBits(k), Mass: fromBits(k)}
			part := impl.Particle{Charge: over(-fromBits(k), float32(n)), Mass: over(fromBits(k), float32(n))}
			got, ok := impl.SplitParticle(p, n)
			if part.Mass == 0 {
				wantFailures(t, []badCall{{fmt.Sprintf("SplitParticle(%v, %d)", p, n), call1(got, ok)}})
				continue
			}
			wantEqual(t, fmt.Sprintf("SplitParticle(%v, %d)", p, n), wordOfSome(got, ok), wordOfSome(repeated(part, int(n)), true))
		}
	}
	wantFailures(t, []badCall{
		{"SplitParticle of the least mass", call1(impl.SplitParticle(impl.Particle{Charge: 1, Mass: fromBits(1)}, 2))},
		{"SplitParticle of a small mass", call1(impl.SplitParticle(impl.Particle{Charge: 1, Mass: fromBits(8)}, 16))},
	})
	for _, charge := range []float32{fromBits(1), -fromBits(1), 0, minusZero()} {
		got, ok := impl.SplitParticle(impl.Particle{Charge: charge, Mass: math.MaxFloat32}, 2)
		part := impl.Particle{Charge: charge * 0, Mass: math.MaxFloat32 / 2}
		wantEqual(t, "SplitParticle of a small charge", wordOfSome(got, ok), wordOfSome(repeated(part, 2), true))
	}
}

func TestMergeParticles(t *testing.T) {
	particle := func(at, speed complex64, charge, mass float32) impl.Particle {
		return impl.Particle{At: at, Speed: speed, Charge: charge, Mass: mass}
	}
	for _, c := range []struct{ a, b, want impl.Particle }{
		{particle(complex(1, 2), complex(2, 0), 1, 1), particle(complex(3, 6), complex(0, -4), 2, 1), particle(complex(2, 4), complex(1, -2), 3, 2)},
		{particle(complex(8, 0), complex(0, 4), 5, 1), particle(complex(0, -8), complex(8, 0), -5, 3), particle(complex(2, -6), complex(6, 1), 0, 4)},
		{particle(complex(-1, 0), 0, minusZero(), 0.5), particle(complex(1, 0), 0, minusZero(), 0.5), particle(0, 0, minusZero(), 1)},
		// Places are not wrapped, and masses may be lost in the sum.
		{particle(complex(1e20, -50), 3, 1, 1), particle(complex(1e20, -50), 3, 1, 1), particle(complex(1e20, -50), 3, 2, 2)},
		{particle(complex(1, 1), complex(3, 4), 0x1p24, 0x1p24), particle(0, 0, 1, 1), particle(complex(1, 1), complex(3, 4), 0x1p24, 0x1p24)},
		{particle(complex(1, 1), complex(3, 4), 1, fromBits(1)), particle(complex(3, -1), 1, 1, fromBits(1)), particle(complex(2, 0), complex(2, 2), 2, fromBits(2))},
	} {
		got, ok := impl.MergeParticles(c.a, c.b)
		wantEqual(t, fmt.Sprintf("MergeParticles(%v, %v)", c.a, c.b), wordOfOne(got, ok), wordOfOne(c.want, true))
	}
}

// Any of the numbers may be one that is not finite.
func TestMergedNumbersMustBeFinite(t *testing.T) {
	const huge = math.MaxFloat32
	good := impl.Particle{At: complex(1, 2), Speed: complex(3, 4), Charge: 5, Mass: 6}
	for i, change := range []func(p *impl.Particle){
		func(p *impl.Particle) { p.At = complex(huge, 0) },
		func(p *impl.Particle) { p.At = complex(0, -huge) },
		func(p *impl.Particle) { p.Speed = complex(-huge, 0) },
		func(p *impl.Particle) { p.Speed = complex(0, huge) },
		func(p *impl.Particle) { p.Charge = huge },
		func(p *impl.Particle) { p.Charge = -huge },
		func(p *impl.Particle) { p.Mass, p.At, p.Speed = huge, 0, 0 },
	} {
		bad := good
		change(&bad)
		what := fmt.Sprintf("MergeParticles with the change %d", i)
		wantFailures(t, []badCall{{what, call1(impl.MergeParticles(bad, bad))}})
		other := impl.Particle{Charge: -bad.Charge, Mass: 0x1p-20}
		bad.Mass = min(bad.Mass, 0.25)
		wantSuccesses(t, []badCall{{what + ", but a light one", call1(impl.MergeParticles(bad, other))}, {what + ", but light ones", call1(impl.MergeParticles(other, bad))}})
	}
}

// Charge, mass and momentum are neither lost nor made, nearly, and the place is
// between both.
func TestMergedParticlesKeepMomentum(t *testing.T) {
	s := newSource()
	for range 1000 {
		a, b := s.gentle().p, s.gentle().p
		got, ok := impl.MergeParticles(a, b)
		wantEqual(t, "MergeParticles succeeds", ok, true)
		before, _, most := sumsOver(a, b)
		after, _, _ := sumsOver(got)
		wantNearby(t, "the momentum of both", complex64(after), complex64(before), 1e-5*most+1e-6)
		wantNumber(t, "the charge of both", got.Charge, plus(a.Charge, b.Charge))
		wantNumber(t, "the mass of both", got.Mass, plus(a.Mass, b.Mass))
		wantNear(t, "the ways to both", []float32{float32(length(got.At-a.At) + length(got.At-b.At))}, []float32{float32(length(a.At - b.At))}, 1e-4)
		parts, one := impl.SplitParticle(got, 2)
		again, two := impl.MergeParticles(firstOf(parts), firstOf(parts))
		wantEqual(t, "SplitParticle and MergeParticles succeed", one && two, true)
		wantParticles(t, "MergeParticles of both halves", []impl.Particle{again}, []impl.Particle{got})
	}
}

func TestDragSpeeds(t *testing.T) {
	list := []impl.Particle{met(1, complex(2, -4)), met(2, complex(0, minusZero())), met(3, complex(0.1, fromBits(3)))}
	for _, c := range []struct {
		keep float32
		want []complex64
	}{
		{1, []complex64{complex(2, -4), complex(0, minusZero()), complex(0.1, fromBits(3))}},
		{0.5, []complex64{complex(1, -2), complex(0, minusZero()), complex(0.05, fromBits(2))}},
		{0, []complex64{complex(0, minusZero()), complex(0, minusZero()), complex(0, 0)}},
		{minusZero(), []complex64{complex(minusZero(), 0), complex(minusZero(), 0), complex(minusZero(), minusZero())}},
		{-1, []complex64{complex(-2, 4), complex(minusZero(), 0), complex(-0.1, -fromBits(3))}},
		{3, []complex64{complex(6, -12), complex(0, minusZero()), complex(times(0.1, 3), fromBits(9))}},
		{-0.1, []complex64{complex(-0.2, 0.4), complex(minusZero(), 0), complex(times(0.1, -0.1), minusZero())}},
	} {
		var want []impl.Particle
		for i, p := range list {
			want = append(want, withSpeed(p, c.want[i]))
		}
		got, ok := impl.DragSpeeds(list, c.keep)
		wantEqual(t, fmt.Sprintf("DragSpeeds(%v)", c.keep), wordOfSome(got, ok), wordOfSome(want, true))
		got, ok = impl.DragSpeeds(nil, c.keep)
		wantEqual(t, "DragSpeeds of none", wordOfSome(got, ok), wordOfSome(nil, true))
	}
	const huge = math.MaxFloat32
	for i := range 3 {
		for _, speed := range []complex64{huge, complex(0, huge), -huge, complex(1, -huge)} {
			fast := repeated(ordinaryParticle(), 3)
			fast[i].Speed = speed
			for _, keep := range []float32{above(1), -above(1), 2, huge} {
				wantFailures(t, []badCall{{"DragSpeeds of a great speed", call1(impl.DragSpeeds(fast, keep))}})
			}
			wantSuccesses(t, []badCall{{"DragSpeeds of a great speed", call1(impl.DragSpeeds(fast, -1))}})
		}
	}
}
