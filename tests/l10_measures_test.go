package tests

import (
	"fmt"
	"math"
	"slices"
	"testing"

	"loop.example/g01226/impl"
)

// withSpeeds makes particles that have these real parts of their speeds, and others
// of all other numbers.
func withSpeeds(speeds ...float32) []impl.Particle {
	var list []impl.Particle
	for i, x := range speeds {
		list = append(list, impl.Particle{At: complex(float32(i), 3), Speed: complex(x, float32(100-i)), Charge: float32(-i), Mass: float32(i + 1)})
	}
	return list
}

func wantHistogram(t *testing.T, speeds []float32, low, high float32, bins int64, want ...int64) {
	t.Helper()
	got, ok := impl.HistogramOf(withSpeeds(speeds...), low, high, bins)
	wantIntegers(t, fmt.Sprint("HistogramOf ", speeds, low, high, bins), got, ok, want...)
}

func TestHistogramOf(t *testing.T) {
	wantHistogram(t, []float32{1, 3}, 0, 4, 2, 1, 1)
	wantHistogram(t, nil, 0, 4, 1, 0)
	wantHistogram(t, nil, -1, 1, 5, 0, 0, 0, 0, 0)
	// The low edge of a bin is in it, and the high one in the next bin.
	edges := []float32{-2, -1, 0, 1, 2}
	wantHistogram(t, edges, -2, 2, 4, 1, 1, 1, 1)
	wantHistogram(t, edges, -2, 2, 2, 2, 2)
	wantHistogram(t, edges, -2, 2, 1, 4)
	wantHistogram(t, edges, -1, 1, 1, 2)
	wantHistogram(t, edges, 0, 1, 1, 1)
	for _, x := range edges {
		wantHistogram(t, []float32{x}, x, x+1, 1, 1)
		wantHistogram(t, []float32{x}, x-1, x, 1, 0)
	}
	// Differences are rounded: those of just below 0, 1 and 2 become 2, 3 and 4.
	wantHistogram(t, []float32{below(-2), above(-2), below(-1), above(-1), below(0), above(0), below(1), above(1), below(2), above(2)}, -2, 2, 4, 2, 1, 2, 2)
	wantHistogram(t, []float32{minusZero(), 0, fromBits(1), -fromBits(1)}, 0, 1, 1, 3)
	wantHistogram(t, []float32{minusZero(), 0, fromBits(1), -fromBits(1)}, minusZero(), 1, 2, 3, 0)
	wantHistogram(t, []float32{5, 5, 5, 100, -100, 6}, 4, 7, 3, 0, 3, 1)
	// A speed just below an edge comes to it by rounding.
	wantHistogram(t, []float32{below(0)}, -1, 1, 2, 0, 1)
	wantHistogram(t, []float32{below(1), 1 - 0x1p-19}, -16, 1, 17, append(repeated(int64(0), 16), 1)...)
	wantHistogram(t, []float32{0.1, 0.2, 0.3, 0.4, 0.5, 0.6, 0.7, 0.8, 0.9}, 0, 1, 10, histogramOfTenths()...)
}

// histogramOfTenths tells by the quotients of 32-bit numbers where tenths are.
func histogramOfTenths() []int64 {
	counts := make([]int64, 10)
	for _, x := range []float32{0.1, 0.2, 0.3, 0.4, 0.5, 0.6, 0.7, 0.8, 0.9} {
		counts[int(over(x, 0.1))]++
	}
	return counts
}

func TestHistogramOfOneAndOf64Bins(t *testing.T) {
	var speeds []float32
	for k := range 64 {
		speeds = append(speeds, float32(k))
	}
	wantHistogram(t, speeds, 0, 64, 64, repeated(int64(1), 64)...)
	wantHistogram(t, speeds, 0, 64, 1, 64)
	wantHistogram(t, speeds, 0, 128, 64, append(repeated(int64(2), 32), repeated(int64(0), 32)...)...)
	wantHistogram(t, speeds, 0, 32, 64, slices.Concat(repeated([]int64{1, 0}, 32)...)...)
	for bins := int64(-3); bins <= 70; bins++ {
		got, ok := impl.HistogramOf(withSpeeds(speeds...), 0, 64, bins)
		wantEqual(t, fmt.Sprintf("HistogramOf %d bins succeeds", bins), ok, bins >= 1 && bins <= 64)
		wantEqual(t, fmt.Sprintf("HistogramOf %d bins, how many", bins), int64(len(got)), max(0, min(bins, 65)%65))
		if !ok {
			wantFailures(t, []badCall{{fmt.Sprint("HistogramOf with bins ", bins), call1(got, ok)}})
		}
	}
}

// A width of 0 makes infinities, or not-a-numbers, an infinite one zeros.
func TestHistogramsOfOddWidths(t *testing.T) {
	const huge = math.MaxFloat32
	least := fromBits(1)
	all := []float32{-huge, -1, -least, 0, least, 1, huge}
	wantHistogram(t, all, 0, least, 1, 1)
	wantHistogram(t, all, 0, least, 2, 0, 0)
	wantHistogram(t, all, 0, least, 64, repeated(int64(0), 64)...)
	wantHistogram(t, all, -least, least, 1, 2)
	wantHistogram(t, all, -least, least, 2, 1, 1)
	wantHistogram(t, all, -least, least, 4, 0, 0, 0, 0)
	// Widths that are rounded: 3 least ones in 2 bins have one of 2.
	wantHistogram(t, []float32{0, least, 2 * least, 3 * least, 4 * least}, 0, 3*least, 2, 2, 2)
	wantHistogram(t, []float32{0, least, 2 * least, 3 * least, 4 * least, 5 * least}, 0, 5*least, 2, 2, 2)
	wantHistogram(t, []float32{0, least, 2 * least, 63 * least, 64 * least}, 0, 64*least, 64, append(append([]int64{1, 1, 1}, repeated(int64(0), 60)...), 1)...)
	// All differences are less than an infinite width, but for infinite ones.
	wantHistogram(t, all, -huge, huge, 1, 6)
	wantHistogram(t, all, -huge, huge, 3, 6, 0, 0)
	wantHistogram(t, []float32{-huge, -huge, 0, 1}, -1, huge, 1, 2)
	wantHistogram(t, []float32{-huge, 0, huge / 2, huge}, huge/-2, huge, 2, 3, 0)
	wantHistogram(t, []float32{0, huge / 4, huge / 2, huge}, 0, huge, 2, 2, 1)
}

func TestHistogramsNeedLowAndHigh(t *testing.T) {
	list := withSpeeds(1, 2, 3)
	for _, low := range oddNumbers() {
		for _, high := range oddNumbers() {
			got, ok := impl.HistogramOf(list, low, high, 3)
			what := fmt.Sprintf("HistogramOf from %v to %v", low, high)
			if finite(low) && finite(high) && low < high {
				want, _ := histogramWanted(list, low, high, 3)
				wantIntegers(t, what, got, ok, want...)
			} else {
				wantFailures(t, []badCall{{what, call1(got, ok)}})
			}
		}
	}
	for _, x := range edgeNumbers() {
		wantFailures(t, []badCall{{"HistogramOf from a number to itself", call1(impl.HistogramOf(list, x, x, 1))}})
	}
}

func TestHistogramsAgainstOtherNumbers(t *testing.T) {
	s := newSource()
	for range 3000 {
		var speeds []float32
		low := s.number()
		high, bins := low+float32(s.Float64())*16, 1+s.Int63n(64)
		width := over(minus(high, low), float32(bins))
		for range s.Intn(65) {
			edge := plus(low, times(width, float32(s.Int63n(bins+2)-1)))
			speeds = append(speeds, []float32{edge, below(edge), above(edge), plus(low, times(minus(high, low), float32(s.Float64()))), low, high}[s.Intn(6)])
		}
		if !(low < high) {
			continue
		}
		want, _ := histogramWanted(withSpeeds(speeds...), low, high, bins)
		wantHistogram(t, speeds, low, high, bins, want...)
	}
}

func wantMoment(t *testing.T, n int64, want float32, speeds ...float32) {
	t.Helper()
	got, ok := impl.MomentOf(withSpeeds(speeds...), n)
	wantNumber(t, fmt.Sprintf("MomentOf %v, %d", speeds, n), got, want)
	wantEqual(t, fmt.Sprintf("MomentOf %v, %d succeeds", speeds, n), ok, true)
}

func TestMomentOf(t *testing.T) {
	const huge = math.MaxFloat32
	for n, want := range []float32{1, 2, 5, 14, 41, 122, 365} {
		wantMoment(t, int64(n), want, 1, 3)
	}
	for n, want := range []float32{1, 0, 1, 0, 1, 0, 1} {
		wantMoment(t, int64(n), want, 1, -1)
		wantMoment(t, int64(n), want, -1, 1)
	}
	for n, want := range []float32{1, -2, 4, -8, 16, -32, 64} {
		wantMoment(t, int64(n), want, -2)
		wantMoment(t, int64(n), over(want+oneOrZero(n == 0)*2, 3), -2, minusZero(), 0)
	}
	for n := range int64(7) {
		wantMoment(t, n, oneOrZero(n == 0), minusZero())
		wantMoment(t, n, oneOrZero(n == 0), 0, minusZero())
		wantMoment(t, n, 1, repeated(float32(1), 64)...)
		wantMoment(t, n, over(oneOrZero(n == 0)*63+1, 64), append(repeated(float32(0), 63), 1)...)
	}
	// The mean is divided and narrowed in the end.
	wantMoment(t, 1, over(1, 3), 1, 0, 0)
	wantMoment(t, 1, float32(float64(float32(0.1))+float64(float32(0.2)))/2, 0.1, 0.2)
	wantMoment(t, 1, huge, huge, huge, huge)
	wantMoment(t, 1, 0, huge, huge, -huge, -huge)
	wantMoment(t, 2, 1e20*1e18, 1e19)
	wantMoment(t, 6, 4096e30, 4e5)
	wantMoment(t, 2, infinity(), huge)
	wantMoment(t, 2, infinity(), 1e20, 0)
	wantMoment(t, 3, -infinity(), -huge)
	wantMoment(t, 5, -infinity(), -1e20, 1)
	wantMoment(t, 3, 0, -huge, huge)
	wantMoment(t, 6, infinity(), -huge, huge)
	// Powers that are too small for 32-bit numbers still add up.
	wantMoment(t, 2, 0, 1e-30)
	wantMoment(t, 3, minusZero(), -1e-30)
	wantMoment(t, 2, fromBits(1), 0x1p-75, 0x1p-74)
	wantMoment(t, 3, minusZero(), -fromBits(1))
	wantMoment(t, 6, 0, fromBits(1), -fromBits(1))
}

func oneOrZero(yes bool) float32 {
	return float32(oneIf(yes))
}

// Powers and sums are those of 64-bit numbers, in order.
func TestMomentsOf64Bits(t *testing.T) {
	x := float32(16777215)
	sum := float64(x) * float64(x) * float64(x)
	wantMoment(t, 3, float32(sum), x)
	wantMoment(t, 2, float32((float64(x)*float64(x)+1)/2), x, 1)
	wantMoment(t, 1, 0.25, 1e30, -1e30, 1, 0)
	wantMoment(t, 1, 0, 1, 1e30, -1e30, 0)
	wantMoment(t, 1, 0.5, 16777216, 1, -16777216, 1)
	wantMoment(t, 5, 0, 1, 1e20, -1e20)
}

func TestMomentsAgainstOtherNumbers(t *testing.T) {
	s := newSource()
	for range 3000 {
		var speeds []float32
		for range 1 + s.Intn(64) {
			speeds = append(speeds, []float32{s.number(), s.finiteBits()}[oneIf(s.Intn(30) == 0)])
		}
		for n := range int64(7) {
			want, _ := momentWanted(withSpeeds(speeds...), n)
			wantMoment(t, n, want, speeds...)
		}
	}
}

func TestPowersOfMoments(t *testing.T) {
	list := withSpeeds(1, 2, 3)
	for _, n := range []int64{-1, 7, 8, -2, 64, math.MaxInt64, math.MinInt64, 1 << 32, 1<<32 + 1, -1 << 32} {
		wantFailures(t, []badCall{{fmt.Sprint("MomentOf with the power ", n), call1(impl.MomentOf(list, n))}})
	}
	for n := int64(-2); n <= 9; n++ {
		wantFailures(t, []badCall{{"MomentOf no particle", call1(impl.MomentOf(nil, n))}, {"MomentOf none", call1(impl.MomentOf([]impl.Particle{}, n))}})
	}
}

// cloudAt has some particles at places.
func cloudAt(g impl.Grid, places ...complex64) impl.Cloud {
	c := impl.Cloud{Grid: g, Magnet: float32(len(places)), Back: 1}
	for _, at := range places {
		c.Particles = append(c.Particles, impl.Particle{At: at, Speed: 7, Charge: 1, Mass: 2})
	}
	return c
}

func wantChange(t *testing.T, a, b impl.Cloud, want float32) {
	t.Helper()
	got, ok := impl.ChangeOf(a, b)
	wantNumber(t, shortened("ChangeOf ", a, b), got, want)
	wantEqual(t, shortened("ChangeOf succeeds for ", a, b), ok, true)
}

func TestChangeOf(t *testing.T) {
	g := impl.Grid{Wide: 6, High: 9}
	wantChange(t, cloudAt(g), cloudAt(g), 0)
	wantChange(t, cloudAt(g, 1), cloudAt(g, 1), 0)
	wantChange(t, cloudAt(g, minusZeros()), cloudAt(g, 0), 0)
	wantChange(t, cloudAt(g, 0), cloudAt(g, complex(6, -18)), 0)
	wantChange(t, cloudAt(g, 1), cloudAt(g, complex(3, 2)), float32(math.Sqrt(8)))
	wantChange(t, cloudAt(g, 0, 0, 0), cloudAt(g, 1, complex(0, 2), 0.5), 2)
	wantChange(t, cloudAt(g, 0, 0, 0), cloudAt(g, complex(-1, 0), complex(0, 1), complex(0, 0.5)), 1)
	wantChange(t, cloudAt(g, 0), cloudAt(g, complex(3, 4)), 5)
	wantChange(t, cloudAt(g, complex(3, 4)), cloudAt(g, 0), 5)
	wantChange(t, cloudAt(g, complex(0.5, 8.5)), cloudAt(g, complex(5.5, 0.5)), float32(math.Sqrt(2)))
	// Half of a side is as far as a particle comes.
	wantChange(t, cloudAt(g, 0), cloudAt(g, 3), 3)
	wantChange(t, cloudAt(g, 3), cloudAt(g, 0), 3)
	wantChange(t, cloudAt(g, 0), cloudAt(g, complex(0, 4.5)), 4.5)
	wantChange(t, cloudAt(g, complex(0, 4.5)), cloudAt(g, 0), 4.5)
	wantChange(t, cloudAt(g, 0), cloudAt(g, complex(3, 4.5)), float32(math.Sqrt(29.25)))
	wantChange(t, cloudAt(g, 0), cloudAt(g, complex(above(3), 0)), 6-above(3))
	wantChange(t, cloudAt(g, 0), cloudAt(g, complex(0, above(4.5))), 9-above(4.5))
	wantChange(t, cloudAt(g, 0), cloudAt(g, complex(fromBits(1), 0)), fromBits(1))
	wantChange(t, cloudAt(g, repeated(complex64(0), 48)...), cloudAt(g, append(repeated(complex64(0), 47), complex(0, -1))...), 1)
}

func minusZeros() complex64 {
	return complex(minusZero(), minusZero())
}

// The index of a particle, and nothing but its place, tells how far it has come.
func TestChangesOfEachParticle(t *testing.T) {
	g := impl.Grid{Wide: 16, High: 16}
	for n := 1; n <= 48; n += 5 {
		for i := range n {
			a := cloudAt(g, repeated(complex64(complex(3, 3)), n)...)
			b := cloudAt(g, repeated(complex64(complex(3, 4)), n)...)
			b.Particles[i].At = complex(3, 5.5)
			b.Magnet, b.Back = -3, 17
			for k := range n {
				b.Particles[k].Speed, b.Particles[k].Mass, b.Particles[k].Charge = 1, 3, 4
			}
			wantChange(t, a, b, 2.5)
			wantChange(t, b, a, 2.5)
		}
	}
	s := newSource()
	for range 1500 {
		a := s.anyCloud(s.Intn(49))
		b := s.anyCloud(len(a.Particles))
		b.Grid = a.Grid
		want, _ := changeWanted(a, b)
		wantChange(t, a, b, want)
		wantChange(t, a, a, 0)
	}
}

// Clouds must have equal grids, and as many particles.
func TestChangesNeedLikeClouds(t *testing.T) {
	for _, g := range allGrids() {
		for _, h := range []impl.Grid{{Wide: 4, High: 4}, {Wide: 16, High: 16}, {Wide: 5, High: 9}, {Wide: 9, High: 5}} {
			for _, n := range []int{0, 2} {
				a, b := ordinaryCloud(g, n), ordinaryCloud(h, n)
				got, ok := impl.ChangeOf(a, b)
				list, listed := impl.ChangesOf(shotsOf(a, b))
				if g != h {
					wantFailures(t, []badCall{{inGrid("ChangeOf", g, h), call1(got, ok)}, {inGrid("ChangesOf", g, h), call1(list, listed)}})
					continue
				}
				wantNumber(t, inGrid("ChangeOf", g), got, 0)
				wantSolved(t, inGrid("ChangesOf", g), list, listed && ok, []float32{0})
			}
		}
	}
	g := impl.Grid{Wide: 7, High: 5}
	for n := range 8 {
		for m := range 8 {
			a, b := ordinaryCloud(g, n), ordinaryCloud(g, m)
			if n != m {
				wantFailures(t, []badCall{{fmt.Sprint("ChangeOf", n, m), call1(impl.ChangeOf(a, b))}, {fmt.Sprint("ChangesOf", n, m), call1(impl.ChangesOf(shotsOf(a, b)))}})
			}
		}
	}
}

func TestChangesOf(t *testing.T) {
	g := impl.Grid{Wide: 6, High: 9}
	for _, c := range []struct {
		shots impl.Shots
		want  []float32
	}{
		{impl.Shots{}, nil},
		{shotsOf(cloudAt(g, 1, 2)), nil},
		{shotsOf(cloudAt(g), cloudAt(g)), []float32{0}},
		{shotsOf(cloudAt(g, 1), cloudAt(g, 2), cloudAt(g, 4)), []float32{1, 2}},
		{shotsOf(cloudAt(g, 4), cloudAt(g, 2), cloudAt(g, 1)), []float32{2, 1}},
		{shotsOf(cloudAt(g, 0, 1), cloudAt(g, 0.5, 1), cloudAt(g, 0.5, complex(1, 4)), cloudAt(g, 5.5, complex(1, 4))), []float32{0.5, 4, 1}},
		{shotsOf(repeated(cloudAt(g, 1, 2, 3), 8)...), make([]float32, 7)},
	} {
		got, ok := impl.ChangesOf(c.shots)
		wantSolved(t, shortened("ChangesOf ", c.shots), got, ok, c.want)
	}
	// One pair that is not alike is enough, wherever it is.
	for i := range 8 {
		for _, odd := range []impl.Cloud{cloudAt(g), cloudAt(g, 1, 2), cloudAt(impl.Grid{Wide: 9, High: 6}, 1)} {
			s := shotsOf(repeated(cloudAt(g, 1), 8)...)
			s.Clouds[i] = odd
			wantFailures(t, []badCall{{fmt.Sprint("ChangesOf with another cloud at ", i), call1(impl.ChangesOf(s))}})
		}
	}
}

func wantPath(t *testing.T, s impl.Shots, index int64, want ...complex64) {
	t.Helper()
	got, ok := impl.PathOf(s, index)
	wantEqual(t, shortened("PathOf succeeds for ", index, s), ok, true)
	if !sameComplexes(got, want) {
		t.Errorf("PathOf %s: got %v, want %v", shortened(index, s), got, want)
	}
}

func TestPathOf(t *testing.T) {
	g, h := impl.Grid{Wide: 6, High: 9}, impl.Grid{Wide: 4, High: 4}
	far := complex(float32(math.MaxFloat32), -fromBits(1))
	s := shotsOf(cloudAt(g, 1, 2, minusZeros()), cloudAt(h, 3, far), cloudAt(g, complex(-20, 300), 6, 7, 8))
	wantPath(t, s, 0, 1, 3, complex(-20, 300))
	wantPath(t, s, 1, 2, far, 6)
	wantPath(t, shotsOf(s.Clouds[0], s.Clouds[2]), 2, minusZeros(), 7)
	wantPath(t, shotsOf(s.Clouds[2]), 3, 8)
	for _, index := range []int64{2, 3, 4, -1, -2, math.MaxInt64, math.MinInt64, 1 << 32, -1 << 32, 1 << 62} {
		wantFailures(t, []badCall{{fmt.Sprint("PathOf of ", index), call1(impl.PathOf(s, index))}})
	}
	source := newSource()
	for n := range 49 {
		shots := shotsOf(source.anyCloud(n), source.anyCloud(48), source.anyCloud(n))
		for index := range int64(n) {
			wantPath(t, shots, index, shots.Clouds[0].Particles[index].At, shots.Clouds[1].Particles[index].At, shots.Clouds[2].Particles[index].At)
		}
		wantFailures(t, []badCall{{"PathOf just behind the last one", call1(impl.PathOf(shots, int64(n)))}, {"PathOf -1", call1(impl.PathOf(shots, -1))}})
	}
	for i := range 8 {
		full := shotsOf(repeated(cloudAt(g, 1, 2), 8)...)
		full.Clouds[i] = cloudAt(g, 1)
		wantFailures(t, []badCall{{fmt.Sprint("PathOf without a particle at ", i), call1(impl.PathOf(full, 1))}})
	}
}

// Without clouds, each of them has any particle.
func TestShotsWithoutClouds(t *testing.T) {
	none, c := impl.Shots{}, ordinaryCloud(impl.Grid{Wide: 5, High: 4}, 2)
	for _, index := range []int64{0, 1, 48, 1000, math.MaxInt64} {
		wantPath(t, none, index)
	}
	for _, index := range []int64{-1, -48, math.MinInt64} {
		wantFailures(t, []badCall{{"PathOf no clouds", call1(impl.PathOf(none, index))}})
	}
	changes, ok := impl.ChangesOf(none)
	wantSolved(t, "ChangesOf no clouds", changes, ok, nil)
	added, ok := impl.AddShot(none, c)
	wantShots(t, "AddShot to no clouds", added, ok, shotsOf(c))
	cut, ok := impl.SliceShots(none, 0, 0)
	wantShots(t, "SliceShots of no clouds", cut, ok, none)
	for _, n := range [][2]int64{{0, 1}, {1, 0}, {1, -1}, {-1, 1}, {0, -1}, {-1, 0}} {
		wantFailures(t, []badCall{{fmt.Sprint("SliceShots of no clouds ", n), call1(impl.SliceShots(none, n[0], n[1]))}})
	}
	both, ok := impl.JoinShots(none, none)
	wantShots(t, "JoinShots of no clouds", both, ok, none)
	left, ok := impl.JoinShots(shotsOf(c), none)
	wantShots(t, "JoinShots with no clouds", left, ok, shotsOf(c))
	right, ok := impl.JoinShots(none, shotsOf(c))
	wantShots(t, "JoinShots of no clouds and one", right, ok, shotsOf(c))
	text, ok := impl.StoreShots(none)
	wantEqual(t, "StoreShots of no clouds", text, "")
	wantEqual(t, "StoreShots of no clouds succeeds", ok, true)
}

func TestMapOf(t *testing.T) {
	g := impl.Grid{Wide: 4, High: 5}
	got, ok := impl.MapOf(cloudAt(g))
	wantIntegers(t, "MapOf no particles", got, ok, make([]int64, 20)...)
	want := make([]int64, 20)
	want[0], want[3], want[19], want[6] = 2, 1, 1, 1
	got, ok = impl.MapOf(cloudAt(g, 0, complex(3.5, 0), complex(-0.5, -0.5), complex(4, 5), complex(2.25, 1.75)))
	wantIntegers(t, "MapOf five particles", got, ok, want...)
	s := newSource()
	for range 1000 {
		c := s.anyCloud(s.Intn(49))
		want, _ := mapWanted(c)
		got, ok := impl.MapOf(c)
		wantIntegers(t, shortened("MapOf ", c), got, ok, want...)
		counts, _ := impl.CountCells(c.Grid, c.Particles)
		wantIntegers(t, shortened("CountCells ", c), counts, ok, want...)
	}
}
