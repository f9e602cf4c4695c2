package tests

import (
	"math"
	"math/big"
	"math/rand"
	"testing"

	"loop.example/g01226/impl"
)

func below(x float32) float32 {
	return math.Nextafter32(x, -infinity())
}

func above(x float32) float32 {
	return math.Nextafter32(x, infinity())
}

// validGrids are the least one, the greatest one, and others with odd and even sides.
func validGrids() []impl.Grid {
	return []impl.Grid{{Wide: 4, High: 4}, {Wide: 16, High: 16}, {Wide: 4, High: 16}, {Wide: 16, High: 4}, {Wide: 5, High: 7}, {Wide: 13, High: 6}}
}

// invalidGrids are such that some of them seem to have 16 points, or none.
func invalidGrids() []impl.Grid {
	return []impl.Grid{
		{}, {Wide: 3, High: 4}, {Wide: 4, High: 3}, {Wide: 17, High: 4}, {Wide: 4, High: 17}, {Wide: 4}, {High: 4},
		{Wide: -4, High: -4}, {Wide: 2, High: 8}, {Wide: 8, High: 2}, {Wide: 16, High: 1}, {Wide: 1, High: 16}, {Wide: -4, High: 4}, {Wide: 4, High: -4},
		{Wide: 1 << 32, High: 1 << 32}, {Wide: 1 << 60, High: 16}, {Wide: math.MaxInt64, High: math.MaxInt64}, {Wide: math.MinInt64, High: math.MinInt64}, {Wide: 4, High: math.MaxInt64}, {Wide: math.MinInt64, High: 4},
	}
}

// badPlaces have at least one part that is not finite.
func badPlaces() []complex64 {
	var list []complex64
	for _, x := range []float32{infinity(), -infinity(), notANumber(), fromBits(0x7f800001)} {
		list = append(list, complex(x, 1), complex(1, x), complex(x, x), complex(x, 0), complex(0, x))
	}
	return list
}

func ordinaryParticle() impl.Particle {
	return impl.Particle{At: complex(1.5, 2.25), Speed: complex(0.5, -3), Charge: -2, Mass: 4}
}

// invalidParticles have one number each that a valid particle does not have.
func invalidParticles() []impl.Particle {
	var list []impl.Particle
	for _, x := range badPlaces() {
		p, q := ordinaryParticle(), ordinaryParticle()
		p.At, q.Speed = x, x
		list = append(list, p, q)
	}
	for _, x := range []float32{infinity(), -infinity(), notANumber(), fromBits(0x7f800001)} {
		p, q := ordinaryParticle(), ordinaryParticle()
		p.Charge, q.Mass = x, x
		list = append(list, p, q)
	}
	for _, x := range []float32{0, minusZero(), -1, -fromBits(1), -math.MaxFloat32} {
		p := ordinaryParticle()
		p.Mass = x
		list = append(list, p)
	}
	return append(list, impl.Particle{})
}

// invalidLists are too long, or have an invalid particle first, last or alone.
func invalidLists() [][]impl.Particle {
	ordinary := ordinaryParticle()
	lists := [][]impl.Particle{repeated(ordinary, 65), repeated(ordinary, 1000)}
	for _, p := range invalidParticles() {
		lists = append(lists, []impl.Particle{p}, []impl.Particle{p, ordinary}, []impl.Particle{ordinary, ordinary, p})
	}
	return lists
}

func particleAt(at complex64, charge float32) impl.Particle {
	return impl.Particle{At: at, Charge: charge, Mass: 1}
}

func sameParticle(a, b impl.Particle) bool {
	return sameParts(a.At, b.At) && sameParts(a.Speed, b.Speed) && sameBits(a.Charge, b.Charge) && sameBits(a.Mass, b.Mass)
}

func wantParticles(t *testing.T, what string, got, want []impl.Particle) {
	t.Helper()
	if len(got) != len(want) {
		t.Errorf("%s: got %d particles, want %d", what, len(got), len(want))
		return
	}
	for i, p := range want {
		if !sameParticle(got[i], p) {
			t.Errorf("%s, particle %d: got %v, want %v", what, i, got[i], p)
		}
	}
}

func wantField(t *testing.T, what string, got, want []float32) {
	t.Helper()
	if !sameNumbers(got, want) {
		t.Errorf("%s: got %v, want %v", what, got, want)
	}
}

// fieldOf is a field of zeros but for the numbers at some indices.
func fieldOf(g impl.Grid, numbers map[int64]float32) []float32 {
	field := make([]float32, g.Wide*g.High)
	for i, x := range numbers {
		field[i] = x
	}
	return field
}

// The functions below tell the same as the document in another way: with the
// numbers of the package big, or with single operations on 32-bit numbers made
// as 64-bit ones and narrowed, which rounds alike.

func wrapWanted(x float32, wide int64) float32 {
	wideNumber := func() *big.Float { return new(big.Float).SetPrec(53) }
	at, side := wideNumber().SetFloat64(float64(x)), wideNumber().SetInt64(wide)
	quotient := wideNumber().Quo(at, side)
	n, _ := quotient.Int(nil)
	if wideNumber().SetInt(n).Cmp(quotient) > 0 {
		n.Sub(n, big.NewInt(1))
	}
	product := wideNumber().Mul(side, wideNumber().SetInt(n))
	w, _ := wideNumber().Sub(at, product).Float32()
	if w > 0 && w < float32(wide) {
		return w
	}
	return 0
}

func placeWanted(g impl.Grid, at complex64) complex64 {
	return complex(wrapWanted(real(at), g.Wide), wrapWanted(imag(at), g.High))
}

func plus(a, b float32) float32 {
	return float32(float64(a) + float64(b))
}

func times(a, b float32) float32 {
	return float32(float64(a) * float64(b))
}

func sharesWanted(g impl.Grid, at complex64) ([]int64, []float32) {
	place := placeWanted(g, at)
	floorX, floorY := math.Floor(float64(real(place))), math.Floor(float64(imag(place)))
	f, h := plus(real(place), -float32(floorX)), plus(imag(place), -float32(floorY))
	shares := []float32{times(plus(1, -f), plus(1, -h)), times(f, plus(1, -h)), times(plus(1, -f), h), times(f, h)}
	x, y := int64(floorX), int64(floorY)
	right, up := x+1, g.Wide*(y+1)
	if right == g.Wide {
		right = 0
	}
	if y+1 == g.High {
		up = 0
	}
	return []int64{x + g.Wide*y, right + g.Wide*y, x + up, right + up}, shares
}

func depositWanted(g impl.Grid, list []impl.Particle) []float32 {
	field := make([]float32, g.Wide*g.High)
	for _, p := range list {
		indices, shares := sharesWanted(g, p.At)
		for i, index := range indices {
			field[index] = plus(field[index], times(p.Charge, shares[i]))
		}
	}
	return field
}

func gatherWanted(g impl.Grid, field []float32, at complex64) float32 {
	indices, shares := sharesWanted(g, at)
	sum := float32(0)
	for i, index := range indices {
		sum = plus(sum, times(shares[i], field[index]))
	}
	return sum
}

// source makes numbers that are the same in each run.
type source struct {
	*rand.Rand
}

func newSource() source {
	return source{rand.New(rand.NewSource(2))}
}

// number has a random exponent near 0, so that many magnitudes come together.
func (s source) number() float32 {
	return float32(math.Ldexp(s.Float64()*2-1, s.Intn(40)-20))
}

// finiteBits is any finite number, most of which are far outside of a grid.
func (s source) finiteBits() float32 {
	for {
		x := fromBits(s.Uint32())
		if !math.IsNaN(float64(x)) && !math.IsInf(float64(x), 0) {
			return x
		}
	}
}

func (s source) place() complex64 {
	return complex(s.number(), s.number())
}

func (s source) grid() impl.Grid {
	return impl.Grid{Wide: 4 + s.Int63n(13), High: 4 + s.Int63n(13)}
}

func (s source) particles(n int) []impl.Particle {
	list := make([]impl.Particle, n)
	for i := range list {
		list[i] = impl.Particle{At: s.place(), Speed: s.place(), Charge: s.number(), Mass: float32(math.Abs(float64(s.number()))) + 1}
	}
	return list
}

func (s source) field(g impl.Grid) []float32 {
	field := make([]float32, g.Wide*g.High)
	for i := range field {
		field[i] = s.number()
	}
	return field
}
