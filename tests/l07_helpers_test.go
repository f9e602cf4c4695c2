package tests

import (
	"fmt"
	"math"
	"slices"
	"strings"

	"loop.example/g01226/impl"
)

// workerArguments are all arguments of the functions of chapter 7.
type workerArguments struct {
	c                          impl.Cloud
	order                      []int64
	cell, from, count, workers int64
	list                       []float32
	fields                     []complex64
	tick                       float32
}

// fieldsOfNumbers takes two numbers for each field.
func fieldsOfNumbers(numbers []float32) []complex64 {
	var fields []complex64
	for n := range slices.Chunk(numbers, 2) {
		fields = append(fields, complex(n[0], n[1]))
	}
	return fields
}

// turnedOrder has each index once, and begins with first.
func turnedOrder(n, first int) []int64 {
	order := make([]int64, n)
	for k := range order {
		order[k] = int64((k + first) % n)
	}
	return order
}

func (s source) orderOf(n int) []int64 {
	var order []int64
	for _, i := range s.Perm(n) {
		order = append(order, int64(i))
	}
	return order
}

// withWorkers has arguments some of which may be just beyond their limits.
func (s source) withWorkers(c impl.Cloud) workerArguments {
	n := len(c.Particles)
	return workerArguments{
		c: c, order: s.orderOf(n), cell: s.Int63n(c.Grid.Wide*c.Grid.High+2) - 1, from: s.Int63n(c.Grid.High+3) - 1,
		count: s.Int63n(c.Grid.High+3) - 1, workers: s.Int63n(10), list: s.numbers(s.Intn(258)), fields: fieldsOfNumbers(s.numbers(2 * n)), tick: s.number(),
	}
}

// crowdedCloud has particles whose charges and places have many magnitudes, few
// of which have a cell alone.
func (s source) crowdedCloud(g impl.Grid, n int) impl.Cloud {
	c := s.cloud(n)
	c.Grid = g
	for i := range c.Particles {
		c.Particles[i].At = complex(float32(s.Float64())*float32(g.Wide), float32(s.Float64())*float32(g.High))
	}
	return c
}

// workerFunctions are all functions of chapter 7.
type workerFunctions struct {
	cells, order  func(c impl.Cloud) ([]int64, bool)
	sort          func(c impl.Cloud) (impl.Cloud, bool)
	permute       func(c impl.Cloud, order []int64) (impl.Cloud, bool)
	counts        func(c impl.Cloud) ([]int64, bool)
	starts        func(c impl.Cloud) ([]int64, bool)
	inCell        func(c impl.Cloud, cell int64) ([]int64, bool)
	fullest       func(c impl.Cloud) (int64, int64, bool)
	depositRows   func(c impl.Cloud, from, count int64) ([]float32, bool)
	depositShared func(c impl.Cloud, workers int64) ([]float32, bool)
	sum           func(list []float32) (float32, bool)
	sumShared     func(list []float32, workers int64) (float32, bool)
	kinetic       func(c impl.Cloud) (float32, bool)
	push          func(c impl.Cloud, fields []complex64, tick float32, workers int64) (impl.Cloud, bool)
	rows          func(g impl.Grid, workers int64) ([][]int64, bool)
	checks        func(c impl.Cloud) ([]int64, bool)
}

func workersGiven() workerFunctions {
	return workerFunctions{
		impl.CellsOf, impl.OrderOf, impl.SortCloud, impl.PermuteCloud, impl.CountsOf, impl.StartsOf, impl.InCell, impl.FullestCell,
		impl.DepositRows, impl.DepositShared, impl.LaneSum, impl.LaneShared, impl.KineticLanes, impl.PushShared, impl.RowsFor, impl.CloudChecks,
	}
}

func workersWanted() workerFunctions {
	return workerFunctions{
		cellsWanted, orderWanted, sortWanted, permuteWanted, countsWanted, startsWanted, inCellWanted, fullestWanted,
		depositRowsWanted, depositSharedWanted, laneWanted, laneSharedWanted, kineticLanesWanted, pushSharedWanted, workerRowsWanted, checksWanted,
	}
}

// wordsOf tells what the functions return, in the order of the chapter.
func (f workerFunctions) wordsOf(a workerArguments) string {
	c := a.c
	cloud := func(other impl.Cloud, ok bool) string { return wordOfCloud(c.Grid, other, ok) }
	return strings.Join([]string{
		wordOfIntegers(f.cells(c)), wordOfIntegers(f.order(c)), cloud(f.sort(c)), cloud(f.permute(c, a.order)),
		wordOfIntegers(f.counts(c)), wordOfIntegers(f.starts(c)), wordOfIntegers(f.inCell(c, a.cell)), wordOfFullest(f.fullest(c)),
		wordOfNumbers(f.depositRows(c, a.from, a.count)), wordOfNumbers(f.depositShared(c, a.workers)), wordOfNumber(f.sum(a.list)),
		wordOfNumber(f.sumShared(a.list, a.workers)), wordOfNumber(f.kinetic(c)), cloud(f.push(c, a.fields, a.tick, a.workers)),
		wordOfRows(f.rows(c.Grid, a.workers)), wordOfIntegers(f.checks(c)),
	}, ";")
}

func wordOfIntegers(list []int64, ok bool) string {
	if !ok && len(list) > 0 {
		return "no, but integers"
	}
	return wordOfList(ok, nil, list...)
}

func wordOfFullest(cell, count int64, ok bool) string {
	return wordOfIntegers(whenOk(ok, cell, count), ok)
}

// whenOk leaves zeros out that a function returns if it fails.
func whenOk(ok bool, list ...int64) []int64 {
	if !ok && !slices.ContainsFunc(list, func(n int64) bool { return n != 0 }) {
		return nil
	}
	return list
}

func wordOfRows(rows [][]int64, ok bool) string {
	if !ok && len(rows) > 0 {
		return "no, but rows"
	}
	return wordOfPairs(rows, ok)
}

// The functions below tell what the document tells, in other ways. They take
// valid clouds and grids.

func cellsWanted(c impl.Cloud) ([]int64, bool) {
	var cells []int64
	for _, p := range c.Particles {
		place := placeWanted(c.Grid, p.At)
		cells = append(cells, int64(math.Floor(float64(real(place))))+c.Grid.Wide*int64(math.Floor(float64(imag(place)))))
	}
	return cells, true
}

// membersWanted has the indices of the particles of each cell.
func membersWanted(c impl.Cloud) [][]int64 {
	members := make([][]int64, c.Grid.Wide*c.Grid.High)
	cells, _ := cellsWanted(c)
	for i, cell := range cells {
		members[cell] = append(members[cell], int64(i))
	}
	return members
}

func inCellWanted(c impl.Cloud, cell int64) ([]int64, bool) {
	if cell < 0 || cell >= c.Grid.Wide*c.Grid.High {
		return nil, false
	}
	return membersWanted(c)[cell], true
}

func orderWanted(c impl.Cloud) ([]int64, bool) {
	return slices.Concat(membersWanted(c)...), true
}

func permuteWanted(c impl.Cloud, order []int64) (impl.Cloud, bool) {
	var list []impl.Particle
	for _, i := range order {
		list = append(list, c.Particles[i])
	}
	return withList(c, list), true
}

func sortWanted(c impl.Cloud) (impl.Cloud, bool) {
	order, _ := orderWanted(c)
	return permuteWanted(c, order)
}

func countsWanted(c impl.Cloud) ([]int64, bool) {
	var counts []int64
	for _, in := range membersWanted(c) {
		counts = append(counts, int64(len(in)))
	}
	return counts, true
}

func startsWanted(c impl.Cloud) ([]int64, bool) {
	cells, _ := cellsWanted(c)
	starts := make([]int64, c.Grid.Wide*c.Grid.High)
	for cell := range starts {
		for _, other := range cells {
			if other < int64(cell) {
				starts[cell]++
			}
		}
	}
	return starts, true
}

func fullestWanted(c impl.Cloud) (int64, int64, bool) {
	fullest, most := 0, 0
	for cell, in := range membersWanted(c) {
		if len(in) > most {
			fullest, most = cell, len(in)
		}
	}
	return int64(fullest), int64(most), true
}

func depositRowsWanted(c impl.Cloud, from, count int64) ([]float32, bool) {
	if from < 0 || count < 0 || from+count > c.Grid.High {
		return nil, false
	}
	members := membersWanted(c)[from*c.Grid.Wide : (from+count)*c.Grid.Wide]
	part, _ := permuteWanted(c, slices.Concat(members...))
	return depositWanted(c.Grid, part.Particles), true
}

// depositSharedWanted needs no workers.
func depositSharedWanted(c impl.Cloud, workers int64) ([]float32, bool) {
	if workers < 1 || workers > 8 {
		return nil, false
	}
	sorted, _ := sortWanted(c)
	return depositWanted(c.Grid, sorted.Particles), true
}

// laneWanted has the sum of the lanes written out.
func laneWanted(list []float32) (float32, bool) {
	if len(list) > 256 {
		return 0, false
	}
	var s [8]float32
	for i, x := range list {
		s[i&7] = plus(s[i&7], x)
	}
	return plus(plus(plus(s[0], s[4]), plus(s[2], s[6])), plus(plus(s[1], s[5]), plus(s[3], s[7]))), true
}

func laneSharedWanted(list []float32, workers int64) (float32, bool) {
	if workers < 1 || workers > 8 {
		return 0, false
	}
	return laneWanted(list)
}

func kineticLanesWanted(c impl.Cloud) (float32, bool) {
	var list []float32
	for _, p := range c.Particles {
		list = append(list, times(times(0.5, p.Mass), powerWanted(p.Speed)))
	}
	return laneWanted(list)
}

func pushSharedWanted(c impl.Cloud, fields []complex64, tick float32, workers int64) (impl.Cloud, bool) {
	if workers < 1 || workers > 8 || len(fields) != len(c.Particles) || !finite(tick) {
		return impl.Cloud{}, false
	}
	return eachWanted(c, func(i int, p impl.Particle) impl.Particle {
		p.Speed = speedWanted(p, fields[i], c.Magnet, tick)
		return p
	})
}

// workerRowsWanted deals the rows out one by one, and then counts them.
func workerRowsWanted(g impl.Grid, workers int64) ([][]int64, bool) {
	if workers < 1 || workers > 8 {
		return nil, false
	}
	counts := make([]int64, workers)
	for y := range g.High {
		counts[y%workers]++
	}
	var rows [][]int64
	from := int64(0)
	for _, count := range counts {
		rows = append(rows, []int64{from, count})
		from += count
	}
	return rows, true
}

// checkWanted is the check number of some particles from 0 on.
func checkWanted(list []impl.Particle) int64 {
	text := ""
	for _, p := range list {
		text += fmt.Sprintf("%08x%08x,", math.Float32bits(real(p.At)), math.Float32bits(imag(p.At)))
		text += fmt.Sprintf("%08x%08x", math.Float32bits(real(p.Speed)), math.Float32bits(imag(p.Speed)))
	}
	check := int64(0)
	for _, b := range []byte(text) {
		check = (check*719 + int64(b) + 53) % 65003
	}
	return check
}

func checksWanted(c impl.Cloud) ([]int64, bool) {
	var checks []int64
	for k := 0; k < len(c.Particles); k += 8 {
		checks = append(checks, checkWanted(c.Particles[k:min(k+8, len(c.Particles))]))
	}
	return checks, true
}
