package tests

import (
	"fmt"
	"math"
	"testing"

	"loop.example/g01226/impl"
)

// patterned is a field of numbers with many places behind the point, for which
// a separate calculation has told results.
func patterned(n, seed int) []float32 {
	field := make([]float32, n)
	for i := range field {
		field[i] = float32((i*i*7+i*13+seed*5)%101-50) / 3
	}
	return field
}

// wantText compares with the bits that a separate calculation has told.
func wantText(t *testing.T, what string, got []float32, ok bool, want string) {
	t.Helper()
	text, _ := impl.NumbersText(got)
	wantEqual(t, what, text, want)
	wantEqual(t, what+" succeeds", ok, true)
}

func wantSolved(t *testing.T, what string, got []float32, ok bool, want []float32) {
	t.Helper()
	wantField(t, what, got, want)
	wantEqual(t, what+" succeeds", ok, true)
}

// evenGrids have sides that SweepShared takes.
func evenGrids() []impl.Grid {
	var grids []impl.Grid
	for wide := int64(4); wide <= 16; wide += 2 {
		for high := int64(4); high <= 16; high += 2 {
			grids = append(grids, impl.Grid{Wide: wide, High: high})
		}
	}
	return grids
}

// allGrids are all valid ones.
func allGrids() []impl.Grid {
	var grids []impl.Grid
	for wide := int64(4); wide <= 16; wide++ {
		for high := int64(4); high <= 16; high++ {
			grids = append(grids, impl.Grid{Wide: wide, High: high})
		}
	}
	return grids
}

// halvedGrids have sides that CoarseField takes.
func halvedGrids() []impl.Grid {
	return []impl.Grid{{Wide: 8, High: 8}, {Wide: 16, High: 16}, {Wide: 8, High: 16}, {Wide: 16, High: 8}, {Wide: 10, High: 14}, {Wide: 12, High: 8}}
}

// anyField has any numbers, also such as are not finite.
func (s source) anyField(g impl.Grid) []float32 {
	field, odd := s.field(g), oddNumbers()
	for range s.Intn(6) {
		field[s.Intn(len(field))] = odd[s.Intn(len(odd))]
	}
	return field
}

// The functions below tell what the document tells, step by step, each step as
// a 64-bit number that is narrowed, and with other ways around the edges.

func minus(a, b float32) float32 {
	return float32(float64(a) - float64(b))
}

func over(a, b float32) float32 {
	return float32(float64(a) / float64(b))
}

// around tells where a number stands: beyond an edge, it is that at the other one.
func around(g impl.Grid, x, y int) int {
	wide, high := int(g.Wide), int(g.High)
	if x < 0 {
		x = wide - 1
	}
	if x == wide {
		x = 0
	}
	if y < 0 {
		y = high - 1
	}
	if y == high {
		y = 0
	}
	return y*wide + x
}

func neighboursWanted(g impl.Grid, x, y int) []int {
	return []int{around(g, x-1, y), around(g, x+1, y), around(g, x, y-1), around(g, x, y+1)}
}

func meanWanted(field []float32) float32 {
	sum := float32(0)
	for _, x := range field {
		sum = plus(sum, x)
	}
	return over(sum, float32(len(field)))
}

func levelWanted(field []float32) []float32 {
	mean, level := meanWanted(field), []float32{}
	for _, x := range field {
		level = append(level, minus(x, mean))
	}
	return level
}

func laplaceWanted(g impl.Grid, v []float32) []float32 {
	var laplace []float32
	for i := range v {
		sum := times(4, v[i])
		for _, k := range neighboursWanted(g, i%int(g.Wide), i/int(g.Wide)) {
			sum = minus(sum, v[k])
		}
		laplace = append(laplace, sum)
	}
	return laplace
}

func residualWanted(g impl.Grid, v, charge []float32) float32 {
	level, laplace, greatest := levelWanted(charge), laplaceWanted(g, v), 0.0
	for i := range level {
		size := math.Abs(float64(minus(level[i], laplace[i])))
		if math.IsNaN(size) {
			return notANumber()
		}
		if size > greatest {
			greatest = size
		}
	}
	return float32(greatest)
}

func sweepWanted(g impl.Grid, v, charge []float32, colour int) []float32 {
	swept, level := append([]float32{}, v...), levelWanted(charge)
	for y := 0; y < int(g.High); y++ {
		for x := (colour + y) % 2; x < int(g.Wide); x += 2 {
			sum := level[around(g, x, y)]
			for _, k := range neighboursWanted(g, x, y) {
				sum = plus(sum, swept[k])
			}
			swept[around(g, x, y)] = times(0.25, sum)
		}
	}
	return swept
}

func roundsWanted(g impl.Grid, v, charge []float32, rounds int64) []float32 {
	for range rounds {
		v = sweepWanted(g, sweepWanted(g, v, charge, 0), charge, 1)
	}
	return v
}

func potentialWanted(g impl.Grid, charge []float32, rounds int64) []float32 {
	return levelWanted(roundsWanted(g, make([]float32, len(charge)), charge, rounds))
}

// rowWanted goes down from number to number, and tells them on the way back.
func rowWanted(lower, middle, upper, right []float32) ([]float32, bool) {
	x := make([]float32, len(right))
	var solve func(k int, m, d float32) bool
	solve = func(k int, m, d float32) bool {
		if m == 0 {
			return false
		}
		x[k] = over(d, m)
		if k+1 == len(x) {
			return true
		}
		c, known := over(upper[k], m), x[k]
		ok := solve(k+1, minus(middle[k+1], times(lower[k+1], c)), minus(right[k+1], times(lower[k+1], known)))
		x[k] = minus(known, times(c, x[k+1]))
		return ok
	}
	return x, solve(0, middle[0], right[0])
}

func ringWanted(right []float32) []float32 {
	n := len(right)
	beside, middle, ends := repeated(float32(-1), n), repeated(float32(4), n), make([]float32, n)
	middle[0], middle[n-1] = 8, 4.25
	ends[0], ends[n-1] = -4, -1
	p, _ := rowWanted(beside, middle, beside, right)
	q, _ := rowWanted(beside, middle, beside, ends)
	f := over(plus(p[0], times(0.25, p[n-1])), plus(plus(1, q[0]), times(0.25, q[n-1])))
	for k := range p {
		p[k] = minus(p[k], times(f, q[k]))
	}
	return p
}

func rowsWanted(g impl.Grid, v, charge []float32) []float32 {
	swept, level := append([]float32{}, v...), levelWanted(charge)
	for y := 0; y < int(g.High); y++ {
		var right []float32
		for x := 0; x < int(g.Wide); x++ {
			sum := plus(level[around(g, x, y)], swept[around(g, x, y-1)])
			right = append(right, plus(sum, swept[around(g, x, y+1)]))
		}
		for x, n := range ringWanted(right) {
			swept[around(g, x, y)] = n
		}
	}
	return swept
}

func coarseWanted(g impl.Grid, field []float32) []float32 {
	var coarse []float32
	for y := 0; y < int(g.High); y += 2 {
		for x := 0; x < int(g.Wide); x += 2 {
			sum := plus(field[around(g, x, y)], field[around(g, x+1, y)])
			sum = plus(plus(sum, field[around(g, x, y+1)]), field[around(g, x+1, y+1)])
			coarse = append(coarse, times(0.25, sum))
		}
	}
	return coarse
}

// fineWanted puts each number at four points.
func fineWanted(g impl.Grid, field []float32) []float32 {
	twice := impl.Grid{Wide: 2 * g.Wide, High: 2 * g.High}
	fine := make([]float32, 4*len(field))
	for i, n := range field {
		x, y := 2*(i%int(g.Wide)), 2*(i/int(g.Wide))
		fine[around(twice, x, y)], fine[around(twice, x+1, y)] = n, n
		fine[around(twice, x, y+1)], fine[around(twice, x+1, y+1)] = n, n
	}
	return fine
}

func twoGridsWanted(g impl.Grid, v, charge []float32, rounds int64) []float32 {
	swept := append([]float32{}, roundsWanted(g, v, charge, rounds)...)
	left, laplace := levelWanted(charge), laplaceWanted(g, swept)
	for i := range left {
		left[i] = minus(left[i], laplace[i])
	}
	coarse := coarseWanted(g, left)
	for i := range coarse {
		coarse[i] = times(4, coarse[i])
	}
	half := impl.Grid{Wide: g.Wide / 2, High: g.High / 2}
	for i, x := range fineWanted(half, potentialWanted(half, coarse, 20)) {
		swept[i] = plus(swept[i], x)
	}
	return roundsWanted(g, swept, charge, rounds)
}

func fieldsWanted(g impl.Grid, v []float32) (alongX, alongY []float32) {
	for i := range v {
		k := neighboursWanted(g, i%int(g.Wide), i/int(g.Wide))
		alongX = append(alongX, times(0.5, minus(v[k[0]], v[k[1]])))
		alongY = append(alongY, times(0.5, minus(v[k[2]], v[k[3]])))
	}
	return alongX, alongY
}

func energyWanted(v, charge []float32) float32 {
	sum := float32(0)
	for i, x := range levelWanted(charge) {
		sum = plus(sum, times(x, v[i]))
	}
	return times(0.5, sum)
}

func inGrid(name string, g impl.Grid, more ...any) string {
	return fmt.Sprintf("%s in %v %v", name, g, more)
}
