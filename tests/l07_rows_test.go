package tests

import (
	"fmt"
	"math"
	"slices"
	"testing"

	"loop.example/g01226/impl"
)

// wrongWorkers are numbers of workers beyond the limits.
func wrongWorkers() []int64 {
	return []int64{0, -1, -8, 9, 10, 16, 1 << 32, 1<<32 + 1, math.MaxInt64, math.MinInt64}
}

func TestRowsFor(t *testing.T) {
	for _, c := range []struct {
		high, workers int64
		want          []int64
	}{
		{4, 1, []int64{0, 4}},
		{4, 2, []int64{0, 2, 2, 2}},
		{4, 3, []int64{0, 2, 2, 1, 3, 1}},
		{4, 4, []int64{0, 1, 1, 1, 2, 1, 3, 1}},
		{4, 5, []int64{0, 1, 1, 1, 2, 1, 3, 1, 4, 0}},
		{4, 8, []int64{0, 1, 1, 1, 2, 1, 3, 1, 4, 0, 4, 0, 4, 0, 4, 0}},
		{7, 2, []int64{0, 4, 4, 3}},
		{7, 3, []int64{0, 3, 3, 2, 5, 2}},
		{7, 8, []int64{0, 1, 1, 1, 2, 1, 3, 1, 4, 1, 5, 1, 6, 1, 7, 0}},
		{8, 8, []int64{0, 1, 1, 1, 2, 1, 3, 1, 4, 1, 5, 1, 6, 1, 7, 1}},
		{11, 4, []int64{0, 3, 3, 3, 6, 3, 9, 2}},
		{15, 8, []int64{0, 2, 2, 2, 4, 2, 6, 2, 8, 2, 10, 2, 12, 2, 14, 1}},
		{16, 5, []int64{0, 4, 4, 3, 7, 3, 10, 3, 13, 3}},
		{16, 8, []int64{0, 2, 2, 2, 4, 2, 6, 2, 8, 2, 10, 2, 12, 2, 14, 2}},
	} {
		for wide := int64(4); wide <= 16; wide++ {
			g := impl.Grid{Wide: wide, High: c.high}
			wantEqual(t, inGrid("RowsFor", g, c.workers), wordOfRows(impl.RowsFor(g, c.workers)), wordOfIntegers(c.want, true))
		}
	}
}

// Each row has one worker, who has it with the next ones, and no worker has more
// rows than one before, or two less than another.
func TestRowsOfAllWorkers(t *testing.T) {
	for _, g := range allGrids() {
		for workers := int64(1); workers <= 8; workers++ {
			rows, ok := impl.RowsFor(g, workers)
			wantEqual(t, inGrid("RowsFor succeeds", g, workers), ok && len(rows) == int(workers), true)
			next := int64(0)
			for k, r := range rows {
				wantEqual(t, inGrid("the numbers of a worker", g, workers, k), len(r), 2)
				wantEqual(t, inGrid("the first row of a worker", g, workers, k), r[0], next)
				next += r[1]
				if r[1] > rows[0][1] || r[1] < rows[0][1]-1 || k > 0 && r[1] > rows[k-1][1] {
					t.Errorf("%d workers in %v have the rows %v", workers, g, rows)
				}
			}
			wantEqual(t, inGrid("how many rows workers have", g, workers), next, g.High)
		}
		for _, workers := range wrongWorkers() {
			wantFailures(t, []badCall{{inGrid("RowsFor", g, workers), call1(impl.RowsFor(g, workers))}})
		}
	}
}

// stripes has a particle in the middle of each row of cells, with the charge 1
// in the first one, 2 in the next one, 4 and so on, and the rows turned around.
func stripes(g impl.Grid) impl.Cloud {
	c := impl.Cloud{Grid: g, Back: 100}
	for y := g.High - 1; y >= 0; y-- {
		c.Particles = append(c.Particles, particleAt(complex(2, float32(y)+0.5), float32(math.Ldexp(1, int(y)))))
	}
	return c
}

// Half of what is in a row of cells comes to the row of points with its number,
// and half to the next one, around the edge.
func TestDepositRowsOfStripes(t *testing.T) {
	for _, g := range validGrids() {
		c := stripes(g)
		for from := int64(0); from <= g.High; from++ {
			for count := int64(0); from+count <= g.High; count++ {
				want := make([]float32, g.Wide*g.High)
				for y := from; y < from+count; y++ {
					half := float32(math.Ldexp(0.5, int(y)))
					want[2+g.Wide*y] += half
					want[2+g.Wide*((y+1)%g.High)] += half
				}
				got, ok := impl.DepositRows(c, from, count)
				wantSolved(t, inGrid("DepositRows", g, from, count), got, ok, want)
			}
		}
	}
}

func TestDepositRows(t *testing.T) {
	g := impl.Grid{Wide: 4, High: 4}
	c := impl.Cloud{Grid: g, Particles: []impl.Particle{
		particleAt(complex(1, 1), 1), particleAt(2, 1), particleAt(complex(1.5, 1.25), 1), particleAt(0, 2), particleAt(complex(3, 3.5), 8),
	}}
	for _, d := range []struct {
		from, count int64
		want        map[int64]float32
	}{
		{0, 0, nil},
		{0, 1, map[int64]float32{0: 2, 2: 1}},
		{0, 2, map[int64]float32{0: 2, 2: 1, 5: 1.375, 6: 0.375, 9: 0.125, 10: 0.125}},
		{1, 1, map[int64]float32{5: 1.375, 6: 0.375, 9: 0.125, 10: 0.125}},
		{2, 1, nil},
		{2, 2, map[int64]float32{15: 4, 3: 4}},
		{3, 0, nil},
		{3, 1, map[int64]float32{15: 4, 3: 4}},
		{4, 0, nil},
		{0, 4, map[int64]float32{0: 2, 2: 1, 5: 1.375, 6: 0.375, 9: 0.125, 10: 0.125, 15: 4, 3: 4}},
	} {
		got, ok := impl.DepositRows(c, d.from, d.count)
		wantSolved(t, fmt.Sprintf("DepositRows(%d, %d)", d.from, d.count), got, ok, fieldOf(g, d.want))
	}
}

// wrongRows are not all rows of a grid as high as this, or less than none.
func wrongRows(high int64) [][2]int64 {
	const most, least = math.MaxInt64, math.MinInt64
	return [][2]int64{
		{-1, 0}, {-1, 1}, {-1, 2}, {0, -1}, {1, -1}, {high, -1}, {0, high + 1}, {1, high}, {high - 1, 2}, {high, 1}, {high + 1, 0}, {high + 1, -1}, {high + 2, -2},
		{-high, high}, {-1, high + 1}, {most, 0}, {least, 0}, {most, 1}, {0, most}, {1, most}, {0, least}, {high, most}, {most, most}, {least, least}, {least, most}, {most, least}, {most, -most},
	}
}

func TestDepositRowsTakesRowsOfTheGrid(t *testing.T) {
	for _, g := range validGrids() {
		for _, c := range []impl.Cloud{{Grid: g}, stripes(g), ordinaryCloud(g, 48)} {
			for _, r := range wrongRows(g.High) {
				wantFailures(t, []badCall{{inGrid("DepositRows", g, r), call1(impl.DepositRows(c, r[0], r[1]))}})
			}
			for _, r := range [][2]int64{{0, 0}, {0, 1}, {0, g.High}, {g.High - 1, 0}, {g.High - 1, 1}, {g.High, 0}, {1, g.High - 1}} {
				wantSuccesses(t, []badCall{{inGrid("DepositRows", g, r), call1(impl.DepositRows(c, r[0], r[1]))}})
			}
		}
	}
}

// inOrder is a cloud on a grid 4 wide and 4 high with some charges at one point,
// or halves of twice as much that come there from the row before.
func inOrder(y float32, list ...impl.Particle) impl.Cloud {
	c := impl.Cloud{Grid: impl.Grid{Wide: 4, High: 4}, Back: 7}
	for _, p := range list {
		p.At = complex(1, y+imag(p.At))
		c.Particles = append(c.Particles, p)
	}
	return c
}

// The charges of a point come in the order of the sorted cloud: neither in that
// of the list, nor first those of a row among themselves.
func TestChargesOfAPointComeInOrder(t *testing.T) {
	const huge = 0x1p26
	here := func(charge float32) impl.Particle { return particleAt(0, charge) }
	before := func(charge float32) impl.Particle { return particleAt(complex(0, -0.5), 2*charge) }
	for _, d := range []struct {
		c           impl.Cloud
		point       int64
		want, first float32
	}{
		// The row before comes first. What meets a huge charge alone is lost.
		{inOrder(1, before(huge), here(-huge), here(1)), 5, 1, 1},
		{inOrder(2, here(-huge), here(1), before(huge)), 9, 1, 0},
		{inOrder(3, here(1), before(-huge), before(huge)), 13, 1, 0},
		{inOrder(3, here(1), here(-huge), before(huge)), 13, 0, 0},
		// At the first point, the row before is the last one.
		{inOrder(0, before(1), here(huge), here(-huge)), 1, 1, 0},
		{inOrder(0, here(huge), before(-huge), before(1)), 1, 1, 1},
		{inOrder(4, before(huge), before(-huge), here(1)), 1, 0, 1},
		{inOrder(4, before(-huge), here(huge), before(1)), 1, 1, 1},
	} {
		for workers := int64(1); workers <= 8; workers++ {
			got, ok := impl.DepositShared(d.c, workers)
			wantEqual(t, "DepositShared succeeds", ok, true)
			wantNumber(t, fmt.Sprintf("DepositShared of %v by %d at %d", d.c.Particles, workers, d.point), got[d.point], d.want)
		}
		rows, ok := impl.DepositRows(d.c, 0, 4)
		wantEqual(t, "DepositRows succeeds", ok, true)
		wantNumber(t, fmt.Sprintf("DepositRows of %v at %d", d.c.Particles, d.point), rows[d.point], d.want)
		listed, _ := impl.DepositOf(d.c.Grid, d.c.Particles)
		wantNumber(t, fmt.Sprintf("DepositOf %v at %d", d.c.Particles, d.point), listed[d.point], d.first)
	}
}

// Particles of one cell come in the order of the list.
func TestChargesOfACellComeInOrder(t *testing.T) {
	const huge = math.MaxFloat32
	for _, d := range []struct {
		charges []float32
		want    float32
	}{
		{[]float32{1, 0x1p26, -0x1p26}, 0},
		{[]float32{0x1p26, -0x1p26, 1}, 1},
		{[]float32{0x1p26, 1, -0x1p26}, 0},
		{[]float32{huge, huge, -huge}, infinity()},
		{[]float32{huge, -huge, huge}, huge},
		{[]float32{-huge, -huge, huge}, -infinity()},
		{[]float32{minusZero(), minusZero()}, 0},
	} {
		c := impl.Cloud{Grid: impl.Grid{Wide: 5, High: 4}}
		for _, charge := range d.charges {
			c.Particles = append(c.Particles, particleAt(complex(3, 2), charge), particleAt(complex(1, 3), 1))
		}
		for workers := int64(1); workers <= 8; workers++ {
			got, ok := impl.DepositShared(c, workers)
			wantEqual(t, "DepositShared succeeds", ok, true)
			wantNumber(t, fmt.Sprintf("DepositShared of %v by %d", d.charges, workers), got[13], d.want)
			wantNumber(t, fmt.Sprintf("DepositShared of %v by %d beside it", d.charges, workers), got[16], float32(len(d.charges)))
		}
	}
}

// Any number of workers makes what DepositOf makes of the sorted cloud, and
// DepositRows of all rows, to the last bit.
func TestWorkersMakeTheSameDeposits(t *testing.T) {
	s := newSource()
	different := 0
	for range 60 {
		for _, g := range validGrids() {
			for _, c := range []impl.Cloud{s.crowdedCloud(g, s.Intn(49)), s.crowdedCloud(impl.Grid{Wide: g.Wide, High: 4}, 48)} {
				sorted, _ := impl.SortCloud(c)
				want, _ := impl.DepositOf(c.Grid, sorted.Particles)
				for workers := int64(1); workers <= 8; workers++ {
					got, ok := impl.DepositShared(c, workers)
					wantSolved(t, inGrid("DepositShared", c.Grid, workers), got, ok, want)
				}
				got, ok := impl.DepositRows(c, 0, c.Grid.High)
				wantSolved(t, inGrid("DepositRows of all rows", c.Grid), got, ok, want)
				if listed, _ := impl.DepositOf(c.Grid, c.Particles); !sameNumbers(listed, want) {
					different++
				}
			}
		}
	}
	if different < 100 {
		t.Errorf("the order matters to %d clouds alone", different)
	}
}

// The rows of workers bring what all of them bring, nearly.
func TestRowsOfWorkersBringAll(t *testing.T) {
	s := newSource()
	for range 200 {
		c := s.gentleCloud(s.Intn(49))
		workers := 1 + s.Int63n(8)
		want, _ := impl.DepositShared(c, workers)
		rows, _ := impl.RowsFor(c.Grid, workers)
		sum := make([]float32, c.Grid.Wide*c.Grid.High)
		for _, r := range rows {
			part, ok := impl.DepositRows(c, r[0], r[1])
			wantEqual(t, "DepositRows succeeds", ok, true)
			sum, _ = impl.AddFields(c.Grid, sum, part)
		}
		wantNear(t, inGrid("the sum of DepositRows", c.Grid, workers), sum, want, 1e-5)
		total, _ := impl.TotalCharge(c)
		all, _ := impl.TotalOf(want)
		wantNear(t, inGrid("the charge of DepositShared", c.Grid, workers), []float32{all}, []float32{total}, 1e-4)
	}
}

// Back is no charge of a particle, and Magnet is none at all.
func TestDepositsOfNone(t *testing.T) {
	for _, g := range allGrids() {
		c := impl.Cloud{Grid: g, Magnet: 3, Back: 5}
		for workers := int64(1); workers <= 8; workers++ {
			got, ok := impl.DepositShared(c, workers)
			wantSolved(t, inGrid("DepositShared of none", g, workers), got, ok, make([]float32, g.Wide*g.High))
		}
		for from := range g.High + 1 {
			got, ok := impl.DepositRows(c, from, g.High-from)
			wantSolved(t, inGrid("DepositRows of none", g, from), got, ok, make([]float32, g.Wide*g.High))
		}
	}
}

// Many runs of the same call bring the same bits, whoever of the workers is first.
func TestDepositsOfManyRuns(t *testing.T) {
	s := newSource()
	for _, g := range validGrids() {
		c := s.crowdedCloud(g, 48)
		want, _ := impl.DepositShared(c, 1)
		for run := range 300 {
			workers := int64(run%8) + 1
			got, ok := impl.DepositShared(c, workers)
			wantEqual(t, "DepositShared succeeds", ok, true)
			if !sameNumbers(got, want) {
				t.Fatalf("run %d of %d workers brings other bits", run, workers)
			}
		}
	}
}

// All particles of a cloud may be those of one worker.
func TestDepositsOfOneRow(t *testing.T) {
	s := newSource()
	for _, g := range validGrids() {
		for y := range g.High {
			c := s.crowdedCloud(g, 48)
			for i, p := range c.Particles {
				c.Particles[i].At = complex(real(p.At), float32(y)+float32(s.Float64()))
			}
			sorted, _ := impl.SortCloud(c)
			want, _ := impl.DepositOf(g, sorted.Particles)
			for workers := int64(1); workers <= 8; workers++ {
				got, ok := impl.DepositShared(c, workers)
				wantSolved(t, inGrid("DepositShared of one row", g, y, workers), got, ok, want)
			}
			alone, ok := impl.DepositRows(c, y, 1)
			wantSolved(t, inGrid("DepositRows of one row", g, y), alone, ok, want)
			rest := slices.Concat(restOfRows(t, c, 0, y), restOfRows(t, c, y+1, g.High-y-1))
			wantField(t, inGrid("DepositRows of the other rows", g, y), rest, make([]float32, 2*g.Wide*g.High))
		}
	}
}

func restOfRows(t *testing.T, c impl.Cloud, from, count int64) []float32 {
	t.Helper()
	field, ok := impl.DepositRows(c, from, count)
	wantEqual(t, "DepositRows succeeds", ok, true)
	return field
}
