package tests

import (
	"math"
	"slices"
	"testing"

	"loop.example/g01226/impl"
)

func finite(x float32) bool {
	return !math.IsNaN(float64(x)) && !math.IsInf(float64(x), 0)
}

func finiteParts(x complex64) bool {
	return finite(real(x)) && finite(imag(x))
}

// badNumbers are what a finite number is not.
func badNumbers() []float32 {
	return []float32{infinity(), -infinity(), notANumber(), fromBits(0x7f800001)}
}

// edgeNumbers are finite ones that stand at edges, in pairs of both signs.
func edgeNumbers() []float32 {
	var list []float32
	for _, x := range []float32{0, fromBits(1), fromBits(3), 0x1p-126, 0.5, 1, 2, 1e10, 1e20, math.MaxFloat32 / 2, math.MaxFloat32} {
		list = append(list, x, -x)
	}
	return append(list, minusZero())
}

// pulled is a particle with a speed, the place 1 + 1 i, and the mass 1.
func pulled(charge float32, speed complex64) impl.Particle {
	return impl.Particle{At: complex(1, 1), Speed: speed, Charge: charge, Mass: 1}
}

func partsOf(list ...complex64) []float32 {
	var parts []float32
	for _, x := range list {
		parts = append(parts, real(x), imag(x))
	}
	return parts
}

// wordOf is the text of numbers that a function returns, and no where it fails,
// as it must with zeros alone.
func wordOf(ok bool, numbers ...float32) string {
	text, _ := impl.NumbersText(numbers)
	switch {
	case ok:
		return text
	case slices.ContainsFunc(numbers, func(x float32) bool { return !sameBits(x, 0) }):
		return "no, but " + text
	}
	return "no"
}

func wordOfNumber(x float32, ok bool) string {
	return wordOf(ok, x)
}

func wordOfComplex(x complex64, ok bool) string {
	return wordOf(ok, partsOf(x)...)
}

// wordOfMoved tells where a particle is and how fast, and that it stays what it is.
func wordOfMoved(before, after impl.Particle, ok bool) string {
	if ok && (!sameBits(after.Charge, before.Charge) || !sameBits(after.Mass, before.Mass)) {
		return "another particle"
	}
	if !ok && !sameParticle(after, impl.Particle{}) {
		return "no, but a particle"
	}
	return wordOf(ok, partsOf(after.At, after.Speed)...)
}

// wantFiniteNumber wants a number where it is finite, and otherwise a failure.
func wantFiniteNumber(t *testing.T, what string, got float32, ok bool, want float32) {
	t.Helper()
	wantEqual(t, what, wordOfNumber(got, ok), wordOf(finite(want), whenFinite(want)...))
}

func wantFiniteComplex(t *testing.T, what string, got complex64, ok bool, want complex64) {
	t.Helper()
	wantEqual(t, what, wordOfComplex(got, ok), wordOf(finiteParts(want), whenFinite(partsOf(want)...)...))
}

// whenFinite makes zeros of numbers that are not all finite, as functions do
// that fail.
func whenFinite(numbers ...float32) []float32 {
	if !slices.ContainsFunc(numbers, func(x float32) bool { return !finite(x) }) {
		return numbers
	}
	return make([]float32, len(numbers))
}

// The functions below tell what the document tells, each step on 32-bit numbers
// as one on 64-bit numbers that is narrowed. What is not finite stays so.

func sumWanted(x, y complex64) complex64 {
	return complex(plus(real(x), real(y)), plus(imag(x), imag(y)))
}

func scaledWanted(x complex64, by float32) complex64 {
	return complex(times(real(x), by), times(imag(x), by))
}

func pullWanted(p impl.Particle) float32 {
	return over(p.Charge, p.Mass)
}

// turnWanted has the square of 1 - t i written out.
func turnWanted(p impl.Particle, magnet, tick float32) complex64 {
	t := float64(times(times(pullWanted(p), magnet), over(tick, 2)))
	return complex(float32((1-t*t)/(1+t*t)), float32((-t-t)/(1+t*t)))
}

func kickWanted(p impl.Particle, field complex64, tick float32) complex64 {
	return scaledWanted(field, times(pullWanted(p), over(tick, 2)))
}

func speedWanted(p impl.Particle, field complex64, magnet, tick float32) complex64 {
	kick := kickWanted(p, field, tick)
	faster, turn := complex128(sumWanted(p.Speed, kick)), complex128(turnWanted(p, magnet, tick))
	return sumWanted(complex64(faster*turn), kick)
}

func driftWanted(g impl.Grid, at, speed complex64, tick float32) complex64 {
	sum := sumWanted(at, scaledWanted(speed, tick))
	if !finiteParts(sum) {
		return sum
	}
	return placeWanted(g, sum)
}

func gatherTwoWanted(g impl.Grid, x, y []float32, at complex64) complex64 {
	return complex(gatherWanted(g, x, at), gatherWanted(g, y, at))
}

func leapWanted(g impl.Grid, p impl.Particle, x, y []float32, magnet, tick float32) (impl.Particle, bool) {
	p.Speed = speedWanted(p, gatherTwoWanted(g, x, y, p.At), magnet, tick)
	p.At = driftWanted(g, p.At, p.Speed, tick)
	return wholeParticle(p)
}

func backWanted(g impl.Grid, p impl.Particle, x, y []float32, magnet, tick float32) (impl.Particle, bool) {
	p.At = driftWanted(g, p.At, p.Speed, -tick)
	if !finiteParts(p.At) {
		return impl.Particle{}, false
	}
	p.Speed = speedWanted(p, gatherTwoWanted(g, x, y, p.At), magnet, -tick)
	return wholeParticle(p)
}

func startWanted(g impl.Grid, p impl.Particle, x, y []float32, magnet, tick float32) (impl.Particle, bool) {
	p.Speed = speedWanted(p, gatherTwoWanted(g, x, y, p.At), magnet, -over(tick, 2))
	return wholeParticle(p)
}

// wholeParticle fails as a function does that returns the particle.
func wholeParticle(p impl.Particle) (impl.Particle, bool) {
	if !finiteParts(p.At) || !finiteParts(p.Speed) {
		return impl.Particle{}, false
	}
	return p, true
}

func orbitWanted(p impl.Particle, field complex64, magnet, tick float32, steps int64) ([]complex64, bool) {
	var places []complex64
	for range steps {
		p.Speed = speedWanted(p, field, magnet, tick)
		p.At = sumWanted(p.At, scaledWanted(p.Speed, tick))
		places = append(places, p.At)
	}
	return places, !slices.ContainsFunc(places, func(x complex64) bool { return !finiteParts(x) })
}

func longWanted(x complex64) float32 {
	a, b := float64(real(x)), float64(imag(x))
	return float32(math.Sqrt(a*a + b*b))
}

func radiusWanted(p impl.Particle, magnet float32) float32 {
	if !finite(pullWanted(p)) {
		return notANumber()
	}
	return over(longWanted(p.Speed), float32(math.Abs(float64(times(pullWanted(p), magnet)))))
}

func crossWanted(field complex64, magnet float32) complex64 {
	a, b, m := float64(real(field)), float64(imag(field)), float64(magnet)
	return complex(float32((a*0+b*m)/(m*m)), float32((b*0-a*m)/(m*m)))
}

// centreWanted takes away the quotient of - y + x i and w.
func centreWanted(p impl.Particle, magnet float32) complex64 {
	w := float64(times(pullWanted(p), magnet))
	aside := complex(float32(0*float64(real(p.Speed))-float64(imag(p.Speed))), plus(0*imag(p.Speed), real(p.Speed)))
	x, y := float64(real(aside)), float64(imag(aside))
	quotient := complex(float32((x*w+y*0)/(w*w)), float32((y*w-x*0)/(w*w)))
	return complex(minus(real(p.At), real(quotient)), minus(imag(p.At), imag(quotient)))
}

// leapArguments are all arguments of a leap of one particle.
type leapArguments struct {
	g            impl.Grid
	p            impl.Particle
	x, y         []float32
	magnet, tick float32
}

func (s source) leapArguments() leapArguments {
	g := s.grid()
	return leapArguments{g: g, p: s.particles(1)[0], x: s.field(g), y: s.field(g), magnet: s.number(), tick: s.number()}
}

// gentle arguments come back well, as neither numbers nor their differences
// between points are great.
func (s source) gentle() leapArguments {
	small := func(most float64) float32 { return float32((2*s.Float64() - 1) * most) }
	a := leapArguments{g: s.grid(), magnet: small(20), tick: small(0.5)}
	a.p = impl.Particle{At: complex(small(30), small(30)), Speed: complex(small(3), small(3)), Charge: small(2), Mass: 1 + float32(s.Float64())}
	for range a.g.Wide * a.g.High {
		a.x, a.y = append(a.x, small(1)), append(a.y, small(1))
	}
	return a
}

func wantNearby(t *testing.T, what string, got, want complex64, most float64) {
	t.Helper()
	if far := math.Hypot(float64(real(got)-real(want)), float64(imag(got)-imag(want))); !(far <= most) {
		t.Errorf("%s: got %v, which is %v from %v", what, got, far, want)
	}
}
