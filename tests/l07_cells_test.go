package tests

import (
	"fmt"
	"math"
	"slices"
	"testing"

	"loop.example/g01226/impl"
)

// inCells is a cloud on a grid 4 wide and 5 high whose particles are at the
// corners of some cells. Their charges are their indices.
func inCells(cells ...int64) impl.Cloud {
	c := impl.Cloud{Grid: impl.Grid{Wide: 4, High: 5}, Magnet: 2, Back: -1}
	for i, cell := range cells {
		p := particleAt(complex(float32(cell%4), float32(cell/4)), float32(i))
		c.Particles = append(c.Particles, p)
	}
	return c
}

func wantIntegers(t *testing.T, what string, got []int64, ok bool, want ...int64) {
	t.Helper()
	wantEqual(t, what+" succeeds", ok, true)
	if !slices.Equal(got, want) {
		t.Errorf("%s: got %v, want %v", what, got, want)
	}
}

// wantOrder tells the order of a cloud by the charges of inCells.
func wantOrder(t *testing.T, what string, got impl.Cloud, ok bool, from impl.Cloud, order ...int64) {
	t.Helper()
	var list []impl.Particle
	for _, i := range order {
		list = append(list, from.Particles[i])
	}
	wantCloud(t, what, got, ok, withList(from, list))
}

func TestExamplesOfOrders(t *testing.T) {
	c := inCells(5, 2, 5, 0)
	cells, one := impl.CellsOf(c)
	order, two := impl.OrderOf(c)
	wantIntegers(t, "CellsOf", cells, one, 5, 2, 5, 0)
	wantIntegers(t, "OrderOf", order, two, 3, 1, 0, 2)
	sorted, ok := impl.SortCloud(c)
	wantOrder(t, "SortCloud", sorted, ok, c, 3, 1, 0, 2)
}

func TestOrderOf(t *testing.T) {
	for _, c := range []struct{ cells, order []int64 }{
		{nil, nil},
		{[]int64{19}, []int64{0}},
		{[]int64{0, 19}, []int64{0, 1}},
		{[]int64{19, 0}, []int64{1, 0}},
		{[]int64{7, 7, 7}, []int64{0, 1, 2}},
		{[]int64{7, 6, 7, 6, 7}, []int64{1, 3, 0, 2, 4}},
		{[]int64{3, 4}, []int64{0, 1}},
		{[]int64{4, 3}, []int64{1, 0}},
		{[]int64{19, 18, 17, 16, 15}, []int64{4, 3, 2, 1, 0}},
		{[]int64{10, 9, 2, 1, 19, 11}, []int64{3, 2, 1, 0, 5, 4}},
	} {
		cloud, what := inCells(c.cells...), fmt.Sprint(c.cells)
		cells, one := impl.CellsOf(cloud)
		wantIntegers(t, "CellsOf "+what, cells, one, c.cells...)
		order, two := impl.OrderOf(cloud)
		wantIntegers(t, "OrderOf "+what, order, two, c.order...)
		sorted, ok := impl.SortCloud(cloud)
		wantOrder(t, "SortCloud "+what, sorted, ok, cloud, c.order...)
	}
}

// Particles of one cell stay in the order of the list, also in long lists, which
// sorts may treat in another way than short ones.
func TestParticlesOfOneCellStayInOrder(t *testing.T) {
	s := newSource()
	for n := range 49 {
		for _, different := range []int64{1, 2, 3, 20} {
			var cells []int64
			for range n {
				cells = append(cells, s.Int63n(different))
			}
			c := inCells(cells...)
			sorted, ok := impl.SortCloud(c)
			wantEqual(t, "SortCloud succeeds", ok && len(sorted.Particles) == n, true)
			after, _ := impl.CellsOf(sorted)
			for k := 1; k < n; k++ {
				p, q := sorted.Particles[k-1], sorted.Particles[k]
				if after[k-1] > after[k] || after[k-1] == after[k] && p.Charge >= q.Charge {
					t.Fatalf("the particles %v and %v of the cells %v stand in the wrong order", p.Charge, q.Charge, cells)
				}
			}
			again, ok := impl.SortCloud(sorted)
			wantCloud(t, "SortCloud of a sorted cloud", again, ok, sorted)
		}
	}
}

// Cells are those of wrapped places, from the corner with both zeros on.
func TestCellsAtEdges(t *testing.T) {
	for _, g := range allGrids() {
		wide, high := float32(g.Wide), float32(g.High)
		last, points := (g.High-1)*g.Wide, g.Wide*g.High
		for _, c := range []struct {
			at   complex64
			want int64
		}{
			{0, 0},
			{complex(minusZero(), minusZero()), 0},
			{complex(below(1), below(1)), 0},
			{complex(1, below(1)), 1},
			{complex(below(1), 1), g.Wide},
			{complex(1, 1), g.Wide + 1},
			{complex(below(wide), 0), g.Wide - 1},
			{complex(wide, 0), 0},
			{complex(0, below(high)), last},
			{complex(0, high), 0},
			{complex(below(wide), below(high)), points - 1},
			{complex(wide, high), 0},
			{complex(-1, -1), points - 1},
			{complex(-wide, -high), 0},
			{complex(-0.5, 2.5), 3*g.Wide - 1},
			{complex(2.5, -0.5), last + 2},
			{complex(-fromBits(1), -fromBits(1)), 0},
			{complex(wide+2, 3-high), 3*g.Wide + 2},
		} {
			cells, ok := impl.CellsOf(impl.Cloud{Grid: g, Particles: []impl.Particle{at(0), at(c.at), at(complex(1, 1))}})
			wantIntegers(t, inGrid("CellsOf", g, c.at), cells, ok, 0, c.want, g.Wide+1)
			cell, _ := impl.CellOf(g, c.at)
			wantEqual(t, inGrid("CellOf", g, c.at), cell, c.want)
		}
	}
}

func TestPermuteCloud(t *testing.T) {
	c := inCells(5, 2, 5, 0)
	for _, order := range [][]int64{{0, 1, 2, 3}, {3, 2, 1, 0}, {3, 1, 0, 2}, {1, 2, 3, 0}, {3, 0, 1, 2}, {0, 2, 1, 3}} {
		got, ok := impl.PermuteCloud(c, order)
		wantOrder(t, fmt.Sprintf("PermuteCloud %v", order), got, ok, c, order...)
	}
	none, ok := impl.PermuteCloud(inCells(), nil)
	wantCloud(t, "PermuteCloud of none", none, ok, inCells())
	s := newSource()
	for n := range 49 {
		cloud, order := s.anyCloud(n), s.orderOf(n)
		got, ok := impl.PermuteCloud(cloud, order)
		wantOrder(t, fmt.Sprintf("PermuteCloud %v", order), got, ok, cloud, order...)
		back := make([]int64, n)
		for k, i := range order {
			back[i] = int64(k)
		}
		again, ok := impl.PermuteCloud(got, back)
		wantCloud(t, "PermuteCloud and back", again, ok, cloud)
	}
}

// SortCloud is PermuteCloud in the order of OrderOf.
func TestSortCloudIsAPermutation(t *testing.T) {
	s := newSource()
	for range 500 {
		c := s.anyCloud(s.Intn(49))
		order, one := impl.OrderOf(c)
		permuted, two := impl.PermuteCloud(c, order)
		wantEqual(t, "OrderOf and PermuteCloud succeed", one && two, true)
		sorted, ok := impl.SortCloud(c)
		wantCloud(t, "SortCloud", sorted, ok, permuted)
	}
}

func TestOrdersThatAreNone(t *testing.T) {
	huge := []int64{math.MaxInt64, math.MinInt64, 1 << 32, 1<<32 + 1, -1 << 32, 48, 49, -48}
	for _, order := range [][]int64{
		nil, {0}, {0, 1}, {0, 1, 2, 3}, {0, 1, 2, 2}, {0, 1, 2, 0}, {0, 1, 1}, {0, 0, 0}, {2, 2, 1}, {0, 2, 2},
		{0, 1, 3}, {3, 1, 0}, {-1, 0, 1}, {0, 1, -1}, {0, -2, 1}, {1, 2, 3}, {0, 1, 2, -1}, {0, 1, 2, 48},
	} {
		wantFailures(t, []badCall{{fmt.Sprintf("PermuteCloud %v", order), call1(impl.PermuteCloud(inCells(5, 2, 5), order))}})
	}
	for _, index := range huge {
		for i := range 3 {
			order := []int64{0, 1, 2}
			order[i] = index
			wantFailures(t, []badCall{{fmt.Sprintf("PermuteCloud %v", order), call1(impl.PermuteCloud(inCells(5, 2, 5), order))}})
		}
	}
	for _, order := range [][]int64{{0}, {-1}, {1}, turnedOrder(1000, 3)} {
		wantFailures(t, []badCall{{fmt.Sprintf("PermuteCloud of none, %v", order), call1(impl.PermuteCloud(inCells(), order))}})
	}
}

// In the longest order, each index may be the one that is there twice.
func TestOrdersOfTheGreatestCloud(t *testing.T) {
	c := ordinaryCloud(impl.Grid{Wide: 5, High: 4}, 48)
	for i := range 48 {
		order := turnedOrder(48, i)
		wantSuccesses(t, []badCall{{"PermuteCloud", call1(impl.PermuteCloud(c, order))}})
		for _, index := range []int64{order[(i+7)%48], order[(i+47)%48], -1, 48, 49, 64} {
			wrong := slices.Clone(order)
			wrong[i] = index
			wantFailures(t, []badCall{{fmt.Sprintf("PermuteCloud %v", wrong), call1(impl.PermuteCloud(c, wrong))}})
		}
	}
	wantFailures(t, []badCall{
		{"PermuteCloud with an order of 47", call1(impl.PermuteCloud(c, turnedOrder(47, 0)))},
		{"PermuteCloud with an order of 49", call1(impl.PermuteCloud(c, turnedOrder(49, 0)))},
		{"PermuteCloud with an order twice", call1(impl.PermuteCloud(c, append(turnedOrder(48, 0), turnedOrder(48, 0)...)))},
	})
}

func TestCountsAndStarts(t *testing.T) {
	for _, c := range []struct{ cells, counts, starts []int64 }{
		{nil, make([]int64, 20), make([]int64, 20)},
		{[]int64{0}, []int64{1, 19: 0}, append([]int64{0}, repeated(int64(1), 19)...)},
		{[]int64{19}, []int64{19: 1}, make([]int64, 20)},
		{[]int64{0, 19, 0, 19, 19}, []int64{2, 19: 3}, append([]int64{0}, repeated(int64(2), 19)...)},
		{[]int64{5, 2, 5, 0}, []int64{1, 0, 1, 0, 0, 2, 19: 0}, append([]int64{0, 1, 1, 2, 2, 2}, repeated(int64(4), 14)...)},
		{repeated(int64(18), 48), []int64{18: 48, 19: 0}, []int64{19: 48}},
	} {
		cloud, what := inCells(c.cells...), fmt.Sprint(c.cells)
		counts, one := impl.CountsOf(cloud)
		starts, two := impl.StartsOf(cloud)
		wantIntegers(t, "CountsOf "+what, counts, one, c.counts...)
		wantIntegers(t, "StartsOf "+what, starts, two, c.starts...)
	}
}

// The particles of a cell are those of a sorted cloud from its start on, as many
// as it has.
func TestCellsOfSortedClouds(t *testing.T) {
	s := newSource()
	for range 300 {
		c := s.crowdedCloud(s.grid(), s.Intn(49))
		order, _ := impl.OrderOf(c)
		counts, _ := impl.CountsOf(c)
		starts, _ := impl.StartsOf(c)
		listed, _ := impl.CountCells(c.Grid, c.Particles)
		wantIntegers(t, "CountsOf", counts, true, listed...)
		total := int64(0)
		for cell := range c.Grid.Wide * c.Grid.High {
			in, ok := impl.InCell(c, cell)
			wantIntegers(t, inGrid("InCell", c.Grid, cell), in, ok, order[starts[cell]:starts[cell]+counts[cell]]...)
			wantEqual(t, inGrid("StartsOf", c.Grid, cell), starts[cell], total)
			total += counts[cell]
		}
		wantEqual(t, "the sum of CountsOf", total, int64(len(c.Particles)))
	}
}

func TestInCell(t *testing.T) {
	c := inCells(5, 2, 5, 0, 19, 5, 19)
	for cell, want := range map[int64][]int64{0: {3}, 1: nil, 2: {1}, 3: nil, 4: nil, 5: {0, 2, 5}, 6: nil, 18: nil, 19: {4, 6}} {
		in, ok := impl.InCell(c, cell)
		wantIntegers(t, fmt.Sprintf("InCell %d", cell), in, ok, want...)
	}
	for _, cell := range []int64{-1, -2, -5, 20, 21, 25, 1 << 32, 1<<32 + 5, math.MaxInt64, math.MinInt64} {
		wantFailures(t, []badCall{
			{fmt.Sprintf("InCell %d", cell), call1(impl.InCell(c, cell))},
			{fmt.Sprintf("InCell %d of none", cell), call1(impl.InCell(inCells(), cell))},
		})
	}
	for _, g := range allGrids() {
		for _, c := range []impl.Cloud{{Grid: g}, ordinaryCloud(g, 48)} {
			for _, cell := range []int64{-1, g.Wide * g.High} {
				wantFailures(t, []badCall{{inGrid("InCell", g, cell), call1(impl.InCell(c, cell))}})
			}
			for _, cell := range []int64{0, g.Wide*g.High - 1} {
				in, ok := impl.InCell(c, cell)
				wantIntegers(t, inGrid("InCell", g, cell), in, ok)
			}
		}
	}
}

func TestFullestCell(t *testing.T) {
	for _, c := range []struct {
		cells      []int64
		cell, most int64
	}{
		{nil, 0, 0},
		{[]int64{0}, 0, 1},
		{[]int64{19}, 19, 1},
		{[]int64{19, 0}, 0, 1},
		{[]int64{5, 2, 5, 0}, 5, 2},
		{[]int64{5, 2, 5, 2}, 2, 2},
		{[]int64{2, 5, 2, 5, 5}, 5, 3},
		{[]int64{19, 18, 18, 19, 0}, 18, 2},
		{[]int64{0, 19, 19, 0, 19}, 19, 3},
		{repeated(int64(19), 48), 19, 48},
		{repeated(int64(0), 48), 0, 48},
		{append(repeated(int64(19), 24), repeated(int64(7), 24)...), 7, 24},
	} {
		cell, most, ok := impl.FullestCell(inCells(c.cells...))
		wantIntegers(t, fmt.Sprintf("FullestCell of %v", c.cells), []int64{cell, most}, ok, c.cell, c.most)
	}
	for _, g := range allGrids() {
		cell, most, ok := impl.FullestCell(impl.Cloud{Grid: g})
		wantIntegers(t, inGrid("FullestCell of none", g), []int64{cell, most}, ok, 0, 0)
	}
}
