package tests

import (
	"fmt"
	"math"
	"testing"

	"loop.example/g01226/impl"
)

func TestExampleOfWaves(t *testing.T) {
	for high := int64(4); high <= 16; high++ {
		g := impl.Grid{Wide: 4, High: high}
		got, ok := impl.WaveField(g, 1, 2, 0)
		wantSolved(t, inGrid("WaveField", g), got, ok, fieldOfRows(g, []float32{0, 2, minusZero(), -2}))
	}
}

func TestWaveField(t *testing.T) {
	const huge = math.MaxFloat32
	none, least := minusZero(), fromBits(1)
	for _, c := range []struct {
		wide, m     int64
		size, turns float32
		want        []float32
	}{
		{4, 0, 3, 0, []float32{0, 0, 0, 0}},
		{4, 0, 3, none, []float32{0, 0, 0, 0}},
		{4, 0, -3, 0, []float32{none, none, none, none}},
		{4, 0, 3, 0.25, []float32{3, 3, 3, 3}},
		{4, 1, 1, 0.25, []float32{1, none, -1, 0}},
		{4, 1, 2, -0.25, []float32{-2, 0, 2, none}},
		{4, 1, -2, 0, []float32{none, -2, 0, 2}},
		{4, 2, 5, 0.25, []float32{5, -5, 5, -5}},
		{4, 2, 5, 0, []float32{0, none, 0, none}},
		{4, 3, 2, 0, []float32{0, -2, none, 2}},
		{4, 4, 2, 0.25, []float32{2, 2, 2, 2}},
		{4, 1, 0, 0.125, []float32{0, 0, none, none}},
		{4, 1, none, 0.125, []float32{none, none, 0, 0}},
		{8, 2, 3, 0, []float32{0, 3, none, -3, 0, 3, none, -3}},
		{12, 3, 1, 0, []float32{0, 1, none, -1, 0, 1, none, -1, 0, 1, none, -1}},
		{16, 4, 1, 0.5, []float32{none, -1, 0, 1, none, -1, 0, 1, none, -1, 0, 1, none, -1, 0, 1}},
		// Turns so many that few places are left behind the point, or none.
		{4, 1, 7, 2097152, []float32{0, 7, none, -7}},
		{4, 1, 7, 4194304, []float32{0, 0, none, 0}},
		{4, 1, 7, 8388608, []float32{0, 0, 0, 0}},
		{4, 3, 7, 0x1p60, []float32{0, 0, 0, 0}},
		{4, 3, 7, huge, []float32{0, 0, 0, 0}},
		{4, 3, 7, -huge, []float32{0, 0, 0, 0}},
		{4, 1, huge, 0, []float32{0, huge, none, -huge}},
		{4, 1, least, 0.125, []float32{least, least, -least, -least}},
	} {
		for high := int64(4); high <= 16; high++ {
			g := impl.Grid{Wide: c.wide, High: high}
			got, ok := impl.WaveField(g, c.m, c.size, c.turns)
			wantSolved(t, inGrid("WaveField", g, c.m, c.size, c.turns), got, ok, fieldOfRows(g, c.want))
		}
	}
}

// The quotient of x and Wide is rounded before it is multiplied, and the product
// before it is added to the turns. A calculation outside of this project has told
// the rows.
func TestWaveFieldsAreRounded(t *testing.T) {
	for _, c := range []struct {
		wide, m     int64
		size, turns float32
		want        string
	}{
		{5, 3, 1, 0, "00000000,bf16791a,3f737872,bf73786e,3f167910"},
		{6, 5, 1, 0, "00000000,bf5db3d5,bf5db3db,80000000,3f5db3cf,3f5db3cf"},
		{13, 13, 1, 0, "00000000,00000000,00000000,00000000,00000000,00000000,00000000,36490fdb,00000000,00000000,00000000,00000000,00000000"},
		{6, 6, 1, 0.3333, "3f5dbab4,3f5dbab4,3f5dbaae,3f5dbaae,3f5dbaae,3f5dbaae"},
		{11, 10, 2.5, -0.1, "bfbc175e,c0151926,c01cd02f,bfe57b7b,bf10f56f,3f571248,3ffd6896,401f69c1,400d8269,3f9d5a83,be1227a6"},
		{16, 15, 0.3, 0.7, "be921510,be6998c6,be0b774a,bcc0d263,3dbddc5a,3e4782bf,3e88dbd3,3e992064,3e92150d,3e6998b3,3e0b772f,3cc0d172,bdbddc5a,be4782bf,be88dbd3,be992064"},
		{7, 7, 1e-40, 0.2, "0001091d,0001091d,0001091d,0001091d,0001091d,0001091d,0001091d"},
	} {
		for high := int64(4); high <= 16; high++ {
			g := impl.Grid{Wide: c.wide, High: high}
			got, ok := impl.WaveField(g, c.m, c.size, c.turns)
			row, _ := impl.ReadNumbers(c.want)
			wantSolved(t, inGrid("WaveField", g, c.m, c.size, c.turns), got, ok, fieldOfRows(g, row))
		}
	}
}

func TestWavesAreWavesNearly(t *testing.T) {
	for _, g := range allGrids() {
		for m := range g.Wide + 1 {
			got, ok := impl.WaveField(g, m, 3, 0.3)
			wantEqual(t, inGrid("WaveField succeeds", g, m), ok, true)
			wantNear(t, inGrid("WaveField", g, m), got, sineWave(g, m, 3, 0.3), 3e-5)
		}
		for _, m := range []int64{-1, -g.Wide, g.Wide + 1, g.Wide + 2, 2 * g.Wide, 17, 1 << 40, math.MaxInt64, math.MinInt64} {
			wantFailures(t, []badCall{
				{inGrid("WaveField", g, m), call1(impl.WaveField(g, m, 1, 0))},
				{inGrid("WaveParticles", g, m), call1(impl.WaveParticles(g, 4, m, 1, 0))},
			})
		}
	}
}

func TestWaveParticles(t *testing.T) {
	const huge = math.MaxFloat32
	for _, c := range []struct {
		g           impl.Grid
		count, m    int64
		size, speed float32
		want        []complex64
	}{
		{impl.Grid{Wide: 4, High: 4}, 2, 1, 0, 0.5, []complex64{complex(1, 2), complex(3, 2)}},
		{impl.Grid{Wide: 4, High: 4}, 2, 1, 0.5, 0.5, []complex64{complex(1.5, 2), complex(2.5, 2)}},
		{impl.Grid{Wide: 4, High: 5}, 4, 2, 0.25, -1, []complex64{complex(0.75, 2.5), complex(1.25, 2.5), complex(2.75, 2.5), complex(3.25, 2.5)}},
		{impl.Grid{Wide: 16, High: 7}, 1, 0, 3, minusZero(), []complex64{complex(8, 3.5)}},
		{impl.Grid{Wide: 16, High: 16}, 1, 16, 3, 1, []complex64{complex(8, 8)}},
		{impl.Grid{Wide: 5, High: 16}, 2, 5, 3, 1, []complex64{complex(4.25, 8), complex(0.75, 8)}},
		{impl.Grid{Wide: 5, High: 4}, 1, 1, 9, 1, []complex64{complex(2.5, 2)}},
		// Places are not wrapped.
		{impl.Grid{Wide: 4, High: 4}, 2, 1, 10, 2, []complex64{complex(11, 2), complex(-7, 2)}},
		{impl.Grid{Wide: 4, High: 4}, 2, 1, -10, 2, []complex64{complex(-9, 2), complex(13, 2)}},
		{impl.Grid{Wide: 4, High: 4}, 2, 3, huge, -huge, []complex64{complex(-huge, 2), complex(huge, 2)}},
		{impl.Grid{Wide: 4, High: 4}, 2, 1, 16777216, 2, []complex64{complex(16777216, 2), complex(-16777213, 2)}},
	} {
		var want []impl.Particle
		for _, place := range c.want {
			want = append(want, impl.Particle{At: place, Speed: complex(c.speed, 0), Charge: 1, Mass: 1})
		}
		what := inGrid("WaveParticles", c.g, c.count, c.m, c.size, c.speed)
		got, ok := impl.WaveParticles(c.g, c.count, c.m, c.size, c.speed)
		wantEqual(t, what+" succeeds", ok, true)
		wantParticles(t, what, got, want)
	}
}

func TestWaveParticlesOfAllNumbers(t *testing.T) {
	for _, g := range validGrids() {
		for count := int64(1); count <= 64; count++ {
			list, ok := impl.WaveParticles(g, count, 2, 0.25, 3)
			wantEqual(t, inGrid("WaveParticles", g, count), ok && impl.AreParticles(list) && len(list) == int(count), true)
			for i, p := range list {
				q := (float64(i) + 0.5) / float64(count)
				x := float64(g.Wide)*q + 0.25*math.Sin(4*math.Pi*q)
				wantNearby(t, inGrid("a particle of a wave", g, count, i), p.At, complex(float32(x), float32(g.High)/2), 1e-5)
				wantEqual(t, inGrid("Speed, Charge and Mass", g, count, i), p, impl.Particle{At: p.At, Speed: 3, Charge: 1, Mass: 1})
			}
			want, _ := waveParticlesWanted(g, count, 2, 0.25, 3)
			wantParticles(t, inGrid("WaveParticles", g, count), list, want)
		}
		for _, count := range []int64{0, -1, -64, 65, 66, 128, 1 << 40, math.MaxInt64, math.MinInt64} {
			wantFailures(t, []badCall{{inGrid("WaveParticles", g, count), call1(impl.WaveParticles(g, count, 1, 1, 1))}})
		}
	}
}

func TestFieldDot(t *testing.T) {
	const huge = math.MaxFloat32
	for _, c := range []struct {
		a, b []float32
		want float32
	}{
		{[]float32{1, 2, 3}, []float32{4, 5, 6}, 32},
		{[]float32{1, -2}, []float32{3, 2}, -1},
		{nil, nil, 0},
		{[]float32{minusZero(), 1}, []float32{1, minusZero()}, 0},
		{[]float32{0, 0, -1}, []float32{5, 5, 0}, 0},
		// Products and sums are not rounded to 32 bits before the end.
		{[]float32{1 + 0x1p-12, -1}, []float32{1 + 0x1p-12, 1 + 0x1p-11}, 0x1p-24},
		{[]float32{16777216, 1, 1}, []float32{1, 1, 1}, 16777218},
		{[]float32{16777216, 1, -16777216}, []float32{1, 1, 1}, 1},
		{[]float32{1e30, 4, -1e30}, []float32{1, 1, 1}, 0},
		{[]float32{1e30, -1e30, 4}, []float32{1, 1, 1}, 4},
		{[]float32{1e-30, 1e-30}, []float32{1e-30, 1e30}, 1},
		{[]float32{1e-30, -1e-30}, []float32{1e-30, 1e-30}, 0},
		{[]float32{huge, -huge, 1}, []float32{huge, huge, 7}, 7},
		{[]float32{huge, huge, -huge}, []float32{1, 1, 1}, huge},
		{[]float32{huge, huge}, []float32{1, 1}, infinity()},
		{[]float32{huge}, []float32{-huge}, -infinity()},
		{[]float32{fromBits(1), fromBits(1)}, []float32{0.5, 0.5}, fromBits(1)},
		{[]float32{fromBits(1)}, []float32{0.5}, 0},
		{[]float32{-fromBits(1)}, []float32{0.5}, minusZero()},
		{[]float32{infinity(), 1}, []float32{2, 1}, infinity()},
		{[]float32{infinity(), infinity()}, []float32{2, -1}, notANumber()},
		{[]float32{infinity()}, []float32{0}, notANumber()},
		{[]float32{1, notANumber()}, []float32{1, 0}, notANumber()},
	} {
		for _, g := range validGrids() {
			for _, first := range []int64{0, 5, g.Wide*g.High - 3} {
				a, b := make([]float32, g.Wide*g.High), make([]float32, g.Wide*g.High)
				copy(a[first:], c.a)
				copy(b[first:], c.b)
				got, one := impl.FieldDot(g, a, b)
				turned, two := impl.FieldDot(g, b, a)
				wantEqual(t, inGrid("FieldDot", g, first, c.a, c.b), wordOfNumber(got, one), wordOf(true, c.want))
				wantEqual(t, inGrid("FieldDot", g, first, c.b, c.a), wordOfNumber(turned, two), wordOf(true, c.want))
			}
		}
	}
}

// What a particle gathers of a field, times its charge, is the sum of the field
// times what it leaves, to the last bit where nothing is rounded.
func TestWhatIsGatheredIsWhatIsLeft(t *testing.T) {
	s := newSource()
	for range 3000 {
		g := s.grid()
		p, field := s.exactParticles(1)[0], s.exactField(g)
		left, one := impl.DepositOf(g, []impl.Particle{p})
		dot, two := impl.FieldDot(g, field, left)
		gathered, three := impl.GatherOne(g, field, p.At)
		wantEqual(t, "DepositOf, FieldDot and GatherOne succeed", one && two && three, true)
		wantEqual(t, inGrid("what is gathered", g, p, field), dot, p.Charge*gathered)
	}
}

// The same is true, nearly, of many particles, of any places and charges.
func TestWhatManyGatherIsWhatTheyLeaveNearly(t *testing.T) {
	s := newSource()
	for range 500 {
		g := s.grid()
		var list []impl.Particle
		for range 1 + s.Intn(64) {
			list = append(list, particleAt(complex(float32(s.Float64()*40-20), float32(s.Float64()*40-20)), float32(s.Float64()*2-1)))
		}
		field := make([]float32, g.Wide*g.High)
		for i := range field {
			field[i] = float32(s.Float64()*2 - 1)
		}
		want := 0.0
		for _, p := range list {
			gathered, _ := impl.GatherOne(g, field, p.At)
			want += float64(p.Charge) * float64(gathered)
		}
		left, _ := impl.DepositOf(g, list)
		got, ok := impl.FieldDot(g, field, left)
		wantEqual(t, "FieldDot succeeds", ok, true)
		wantNear(t, inGrid("what many gather", g, list), []float32{got}, []float32{float32(want)}, 2e-5)
	}
}

func TestGrowthsOf(t *testing.T) {
	const huge = math.MaxFloat32
	none := minusZero()
	for _, c := range []struct{ list, want []float32 }{
		{nil, nil},
		{[]float32{}, nil},
		{[]float32{5}, nil},
		{[]float32{0}, nil},
		{[]float32{notANumber()}, nil},
		{[]float32{1, 2}, []float32{2}},
		{[]float32{1, 2, 6}, []float32{2, 3}},
		{[]float32{4, -2, 3, 3}, []float32{-0.5, -1.5, 1}},
		{[]float32{3, 1, 7}, []float32{over(1, 3), 7}},
		// Zeros as divisors.
		{[]float32{0, 1}, []float32{infinity()}},
		{[]float32{none, 1}, []float32{-infinity()}},
		{[]float32{0, -1, 0}, []float32{-infinity(), none}},
		{[]float32{0, 0, none}, []float32{notANumber(), notANumber()}},
		{[]float32{1, 0, 2, none, -3}, []float32{0, infinity(), none, infinity()}},
		{[]float32{infinity(), 1, -infinity(), infinity()}, []float32{0, -infinity(), notANumber()}},
		{[]float32{1, notANumber(), 2}, []float32{notANumber(), notANumber()}},
		{[]float32{huge, fromBits(1), huge}, []float32{0, infinity()}},
		{[]float32{2, fromBits(1), fromBits(3)}, []float32{0, 3}},
		{[]float32{huge, -0x1p-20}, []float32{over(-0x1p-20, huge)}},
	} {
		got, ok := impl.GrowthsOf(c.list)
		wantSolved(t, fmt.Sprint("GrowthsOf ", c.list), got, ok, c.want)
	}
}

func TestStepsToDouble(t *testing.T) {
	const huge = math.MaxFloat32
	for _, c := range []struct {
		list []float32
		want int64
	}{
		{[]float32{1, 2}, 1},
		{[]float32{1, 1.5, 2}, 2},
		{[]float32{1, 1.5, below(2), 2, 4}, 3},
		{[]float32{1, above(2), 1, 2}, 1},
		{[]float32{1, 0.5, 0.25, 3}, 3},
		{[]float32{1, -2, 5}, 2},
		{[]float32{3, 4, 5, 6}, 3},
		{[]float32{3, 5, notANumber(), 4, infinity(), 6}, 4},
		// A first number that is 0 or less is at least twice itself.
		{[]float32{0}, 0},
		{[]float32{minusZero(), 5}, 0},
		{[]float32{0, 0, 1}, 0},
		{[]float32{-1}, 0},
		{[]float32{-1, -2, 3}, 0},
		{[]float32{-huge, 1}, 0},
		{[]float32{-fromBits(1)}, 0},
		{[]float32{-infinity(), 1}, 0},
		{[]float32{infinity()}, 0},
		// Twice a great number is infinite.
		{[]float32{huge, huge, infinity()}, 2},
		{[]float32{huge / 2, below(huge), huge}, 2},
		{[]float32{fromBits(1), fromBits(1), fromBits(2)}, 2},
		{falling(256, 1, 2), 255},
	} {
		got, ok := impl.StepsToDouble(c.list)
		wantEqual(t, fmt.Sprint("StepsToDouble ", c.list), wordOfCount(got, ok), wordOfCount(c.want, true))
	}
}

func TestListsThatNeverDouble(t *testing.T) {
	for _, list := range [][]float32{
		nil, {}, {1}, {1, 1, 1}, {1, below(2)}, {2, 1, 3, -4}, {fromBits(1)}, {math.MaxFloat32, math.MaxFloat32}, {math.MaxFloat32},
		{notANumber()}, {notANumber(), 1, infinity()}, {1, notANumber(), notANumber()}, {1, -infinity()}, {5, 9.999999, 9}, repeated(float32(1), 256),
	} {
		wantFailures(t, []badCall{{fmt.Sprint("StepsToDouble ", list), call1(impl.StepsToDouble(list))}})
	}
}

func TestListsForGrowthsHaveALimit(t *testing.T) {
	for _, n := range []int{0, 1, 2, 16, 17, 64, 255, 256} {
		for _, x := range []float32{1, 0, -3} {
			list := repeated(x, n)
			got, ok := impl.GrowthsOf(list)
			want := repeated(over(x, x), max(n-1, 0))
			wantSolved(t, fmt.Sprintf("GrowthsOf %d numbers %v", n, x), got, ok, want)
			index, ok := impl.StepsToDouble(list)
			wantEqual(t, fmt.Sprintf("StepsToDouble %d numbers %v", n, x), wordOfCount(index, ok), wordOfCount(0, n > 0 && x <= 0))
		}
	}
	for _, n := range []int{257, 258, 512, 1000} {
		for _, x := range []float32{1, 0, -3} {
			wantFailures(t, []badCall{
				{fmt.Sprintf("GrowthsOf %d", n), call1(impl.GrowthsOf(repeated(x, n)))},
				{fmt.Sprintf("StepsToDouble %d", n), call1(impl.StepsToDouble(repeated(x, n)))},
			})
		}
	}
}
