package tests

import (
	"fmt"
	"math"
	"slices"
	"testing"

	"loop.example/g01226/impl"
)

// withList is the cloud with other particles.
func withList(c impl.Cloud, list []impl.Particle) impl.Cloud {
	c.Particles = list
	return c
}

// Magnet and Back are those of the first cloud; the particles of the second one
// stand behind those of the first one.
func TestMergeClouds(t *testing.T) {
	s := newSource()
	for _, sizes := range [][2]int{{0, 0}, {0, 1}, {1, 0}, {1, 1}, {2, 3}, {48, 0}, {0, 48}, {47, 1}, {24, 24}, {20, 28}} {
		for range 20 {
			a, b := s.anyCloud(sizes[0]), s.anyCloud(sizes[1])
			b.Grid = a.Grid
			got, ok := impl.MergeClouds(a, b)
			wantCloud(t, fmt.Sprint("MergeClouds of ", sizes), got, ok, withList(a, slices.Concat(a.Particles, b.Particles)))
		}
	}
	for _, sizes := range [][2]int{{48, 1}, {1, 48}, {25, 24}, {24, 25}, {48, 48}} {
		a, b := s.gentleCloud(sizes[0]), s.gentleCloud(sizes[1])
		b.Grid = a.Grid
		wantFailures(t, []badCall{{fmt.Sprint("MergeClouds of ", sizes), call1(impl.MergeClouds(a, b))}})
	}
}

func TestMergedCloudsNeedOneGrid(t *testing.T) {
	for _, g := range allGrids() {
		for _, h := range validGrids() {
			for _, list := range [][]impl.Particle{nil, {ordinaryParticle()}} {
				got, ok := impl.MergeClouds(impl.Cloud{Grid: g, Particles: list, Back: 1}, impl.Cloud{Grid: h, Particles: list, Magnet: 2})
				if g == h {
					wantCloud(t, inGrid("MergeClouds", g, h), got, ok, impl.Cloud{Grid: g, Particles: slices.Concat(list, list), Back: 1})
					continue
				}
				wantFailures(t, []badCall{{inGrid("MergeClouds", g, h), call1(got, ok)}})
			}
		}
	}
}

func TestSplitCloud(t *testing.T) {
	inf, nan := infinity(), notANumber()
	c := impl.Cloud{Grid: impl.Grid{Wide: 4, High: 5}, Magnet: minusZero(), Back: 0.25}
	for i, x := range []float32{1, -3, 0, 5, minusZero(), above(1), 2, 1, 1e30} {
		c.Particles = append(c.Particles, impl.Particle{At: complex(x, float32(-i)), Speed: complex(float32(i), -1), Charge: 1, Mass: 2})
	}
	for _, w := range []struct {
		limit float32
		less  []int
	}{
		{0, []int{1}},
		{minusZero(), []int{1}},
		{fromBits(1), []int{1, 2, 4}},
		{1, []int{1, 2, 4}},
		{above(1), []int{0, 1, 2, 4, 7}},
		{2, []int{0, 1, 2, 4, 5, 7}},
		{4, []int{0, 1, 2, 4, 5, 6, 7}},
		{5, []int{0, 1, 2, 4, 5, 6, 7}},
		{1e30, []int{0, 1, 2, 3, 4, 5, 6, 7}},
		{math.MaxFloat32, []int{0, 1, 2, 3, 4, 5, 6, 7, 8}},
		{inf, []int{0, 1, 2, 3, 4, 5, 6, 7, 8}},
		{-3, nil},
		{above(-3), []int{1}},
		{-inf, nil},
		{-math.MaxFloat32, nil},
		{nan, nil},
		{fromBits(0x7f800001), nil},
	} {
		var less, others []impl.Particle
		for i, p := range c.Particles {
			if slices.Contains(w.less, i) {
				less = append(less, p)
			} else {
				others = append(others, p)
			}
		}
		left, right, ok := impl.SplitCloud(c, w.limit)
		wantCloud(t, fmt.Sprintf("SplitCloud(%v), less", w.limit), left, ok, withList(c, less))
		wantCloud(t, fmt.Sprintf("SplitCloud(%v), others", w.limit), right, ok, withList(c, others))
	}
}

// The limit may be the place of any particle, which is not less than itself.
func TestSplitsAtPlaces(t *testing.T) {
	s := newSource()
	for range 200 {
		c := s.anyCloud(s.Intn(49))
		for _, q := range c.Particles {
			limit := real(q.At)
			is := func(less bool) []impl.Particle {
				return slices.DeleteFunc(slices.Clone(c.Particles), func(p impl.Particle) bool { return (float64(real(p.At)) < float64(limit)) != less })
			}
			left, right, ok := impl.SplitCloud(c, limit)
			wantCloud(t, "SplitCloud, less", left, ok, withList(c, is(true)))
			wantCloud(t, "SplitCloud, others", right, ok, withList(c, is(false)))
		}
	}
}

func TestSplitsOfNone(t *testing.T) {
	for _, g := range allGrids() {
		for _, limit := range oddNumbers() {
			c := impl.Cloud{Grid: g, Magnet: 2, Back: -1}
			left, right, ok := impl.SplitCloud(c, limit)
			wantCloud(t, "SplitCloud of none, less", left, ok, c)
			wantCloud(t, "SplitCloud of none, others", right, ok, c)
		}
	}
}

func TestMoveCloud(t *testing.T) {
	least, huge := fromBits(1), float32(math.MaxFloat32)
	g := impl.Grid{Wide: 4, High: 5}
	for _, c := range []struct {
		at   complex64
		x, y int64
		want complex64
	}{
		{complex(1, 2), 0, 0, complex(1, 2)},
		{complex(1, 2), 2, -1, complex(3, 1)},
		{complex(1, 2), 3, 3, 0},
		{complex(1, 2), -1, -2, 0},
		{complex(1, 2), -2, -3, complex(3, 4)},
		{complex(1, 2), 1000, -1000, complex(1, 2)},
		{complex(1.5, 2.25), -1000, 1000, complex(1.5, 2.25)},
		{complex(1.5, 2.25), 999, 999, complex(0.5, 1.25)},
		{complex(-7, 12), 0, 0, complex(1, 2)},
		{complex(minusZero(), minusZero()), 0, 0, 0},
		{complex(4, 5), 0, 0, 0},
		{complex(below(4), below(5)), 0, 0, complex(below(4), below(5))},
		// The sum is rounded before it is wrapped.
		{complex(least, -least), 1, 1, complex(1, 1)},
		{complex(least, -least), 0, 0, complex(least, 0)},
		{complex(0.1, 0.1), 1000, 1000, complex(minus(plus(0.1, 1000), 1000), minus(plus(0.1, 1000), 1000))},
		{complex(0x1p24+2, 0x1p24), 1, 1, complex(0, wrapWanted(0x1p24, 5))},
		{complex(huge, -huge), 1000, -1000, complex(wrapWanted(huge, 4), wrapWanted(-huge, 5))},
	} {
		p := impl.Particle{At: c.at, Speed: complex(1, minusZero()), Charge: minusZero(), Mass: 3}
		cloud := impl.Cloud{Grid: g, Particles: []impl.Particle{p}, Magnet: -1, Back: minusZero()}
		want := p
		want.At = c.want
		got, ok := impl.MoveCloud(cloud, c.x, c.y)
		wantCloud(t, fmt.Sprintf("MoveCloud %v", c), got, ok, withList(cloud, []impl.Particle{want}))
	}
}

func TestLimitsOfMoves(t *testing.T) {
	s := newSource()
	for _, n := range []int{0, 1, 48} {
		c := s.gentleCloud(n)
		for _, x := range []int64{-1000, -999, -1, 0, 1, 999, 1000} {
			for _, y := range []int64{-1000, -999, -1, 0, 1, 999, 1000} {
				want, _ := moveWanted(c, x, y)
				got, ok := impl.MoveCloud(c, x, y)
				wantCloud(t, fmt.Sprintf("MoveCloud(%d, %d)", x, y), got, ok, want)
			}
		}
		for _, bad := range []int64{-1001, 1001, 1 << 32, -(1 << 32), math.MaxInt64, math.MinInt64} {
			for _, good := range []int64{-1000, 0, 1000} {
				wantFailures(t, []badCall{
					{"MoveCloud too far along X", call1(impl.MoveCloud(c, bad, good))},
					{"MoveCloud too far along Y", call1(impl.MoveCloud(c, good, bad))},
					{"MoveCloud too far", call1(impl.MoveCloud(c, bad, bad))},
				})
			}
		}
	}
}

func TestTwoStreams(t *testing.T) {
	got, ok := impl.TwoStreams(impl.Grid{Wide: 4, High: 6}, 2, 0.5)
	wantCloud(t, "TwoStreams", got, ok, impl.Cloud{Grid: impl.Grid{Wide: 4, High: 6}, Back: over(4, 24), Particles: []impl.Particle{
		{At: complex(0, 3), Speed: complex(0.5, 0), Charge: -1, Mass: 1}, {At: complex(1, 3), Speed: complex(-0.5, 0), Charge: -1, Mass: 1},
		{At: complex(2, 3), Speed: complex(0.5, 0), Charge: -1, Mass: 1}, {At: complex(3, 3), Speed: complex(-0.5, 0), Charge: -1, Mass: 1},
	}})
	for _, g := range allGrids() {
		for _, count := range []int64{1, 2, 3, 5, 7, 11, 23, 24} {
			for _, speed := range []float32{0, minusZero(), 0.3, -7, fromBits(1), math.MaxFloat32, -math.MaxFloat32} {
				want := impl.Cloud{Grid: g, Back: over(float32(2*count), float32(g.Wide*g.High))}
				for k := range count {
					first, second := over(float32(2*k), float32(2*count)), over(float32(2*k+1), float32(2*count))
					half := times(0.5, float32(g.High))
					want.Particles = append(want.Particles,
						impl.Particle{At: complex(times(float32(g.Wide), first), half), Speed: complex(speed, 0), Charge: -1, Mass: 1},
						impl.Particle{At: complex(times(float32(g.Wide), second), half), Speed: complex(-speed, 0), Charge: -1, Mass: 1})
				}
				got, ok := impl.TwoStreams(g, count, speed)
				wantCloud(t, inGrid("TwoStreams", g, count, speed), got, ok, want)
			}
		}
	}
}

// A calculation outside of this project has told the words below.
func TestTwoStreamsAgainstAnotherCalculation(t *testing.T) {
	for _, c := range []struct {
		g           impl.Grid
		count       int64
		speed, want string
	}{
		{impl.Grid{Wide: 4, High: 4}, 1, "3f000000", "#50629,3f800000"},
		{impl.Grid{Wide: 16, High: 16}, 24, "3dcccccd", "#4610,3f800000"},
		{impl.Grid{Wide: 5, High: 7}, 3, "c0000000", "#8987,3f800000"},
		{impl.Grid{Wide: 13, High: 6}, 7, "3e99999a", "#39182,3f800000"},
		{impl.Grid{Wide: 7, High: 11}, 11, "80000000", "#15314,3f800000"},
		{impl.Grid{Wide: 7, High: 11}, 11, "00000000", "#50993,3f800000"},
		{impl.Grid{Wide: 16, High: 4}, 13, "7149f2ca", "#15698,3f800000"},
		{impl.Grid{Wide: 9, High: 15}, 2, "7f61b1e6", "#34197,3f800000"},
		{impl.Grid{Wide: 15, High: 9}, 23, "00000001", "#24179,3f800000"},
		{impl.Grid{Wide: 11, High: 5}, 17, "3f800000", "#7648,3f800000"},
	} {
		speed, _ := impl.ReadNumbers(c.speed)
		got, ok := impl.TwoStreams(c.g, c.count, speed[0])
		wantEqual(t, inGrid("TwoStreams", c.g, c.count, speed), wordOfCloud(c.g, got, ok), c.want)
	}
}

func TestLimitsOfStreams(t *testing.T) {
	for _, g := range allGrids() {
		for _, count := range []int64{0, -1, 25, 26, 32, 48, 1 << 32, 1 << 62, 1<<62 + 1, math.MaxInt64, math.MinInt64, math.MinInt64 + 1, -(1 << 62)} {
			wantFailures(t, []badCall{{inGrid("TwoStreams", g, count), call1(impl.TwoStreams(g, count, 1))}})
		}
		for _, speed := range badNumbers() {
			wantFailures(t, []badCall{{inGrid("TwoStreams", g, speed), call1(impl.TwoStreams(g, 3, speed))}})
		}
	}
	for _, g := range invalidGrids() {
		for _, count := range []int64{0, 1, 24, 25} {
			wantFailures(t, []badCall{{inGrid("TwoStreams", g, count), call1(impl.TwoStreams(g, count, 1))}})
		}
	}
}

// All charges of streams and of their points are nothing, nearly, and where one
// stream flies to the right, the other one flies to the left.
func TestStreamsCancelOut(t *testing.T) {
	for _, g := range allGrids() {
		for count := int64(1); count <= 24; count++ {
			streams, one := impl.TwoStreams(g, count, 0.75)
			field, two := impl.CloudCharge(streams)
			sum, three := impl.TotalOf(field)
			momentum, four := impl.CloudMomentum(streams)
			total, five := impl.TotalCharge(streams)
			wantEqual(t, inGrid("calls of streams succeed", g), one && two && three && four && five, true)
			wantNear(t, inGrid("the charge of streams", g, count), []float32{sum}, []float32{0}, 1e-4)
			wantComplex(t, inGrid("the momentum of streams", g, count), momentum, 0)
			wantNumber(t, inGrid("the charge of particles of streams", g, count), total, -float32(2*count))
		}
	}
}
