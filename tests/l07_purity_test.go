package tests

import (
	"fmt"
	"runtime"
	"slices"
	"strings"
	"testing"
	"time"

	"loop.example/g01226/impl"
)

func bitsOfIntegers(list []int64, ok bool) string {
	return fmt.Sprint(len(list), list, ok)
}

// workerCalls tell what all functions of chapter 7 return.
func workerCalls(a workerArguments) string {
	cell, most, ok := impl.FullestCell(a.c)
	return strings.Join([]string{
		bitsOfIntegers(impl.CellsOf(a.c)), bitsOfIntegers(impl.OrderOf(a.c)), bitsOfCloud(impl.SortCloud(a.c)), bitsOfCloud(impl.PermuteCloud(a.c, a.order)),
		bitsOfIntegers(impl.CountsOf(a.c)), bitsOfIntegers(impl.StartsOf(a.c)), bitsOfIntegers(impl.InCell(a.c, a.cell)), fmt.Sprint(cell, most, ok),
		bitsOfResult(impl.DepositRows(a.c, a.from, a.count)), bitsOfResult(impl.DepositShared(a.c, a.workers)), bitsOfNumber(impl.LaneSum(a.list)),
		bitsOfNumber(impl.LaneShared(a.list, a.workers)), bitsOfNumber(impl.KineticLanes(a.c)), bitsOfCloud(impl.PushShared(a.c, a.fields, a.tick, a.workers)),
		bitsOfPairs(impl.RowsFor(a.c.Grid, a.workers)), bitsOfIntegers(impl.CloudChecks(a.c)),
	}, ";")
}

// sameWorkersAgain makes copies of what has memory.
func sameWorkersAgain(a workerArguments) workerArguments {
	a.c.Particles, a.order = slices.Clone(a.c.Particles), slices.Clone(a.order)
	a.list, a.fields = slices.Clone(a.list), slices.Clone(a.fields)
	return a
}

// oddWorkers are valid and invalid arguments of many sizes.
func oddWorkers() []workerArguments {
	s, numbers := newSource(), oddNumbers()
	var all []workerArguments
	for i, c := range oddClouds() {
		n := len(c.Particles)
		a := workerArguments{
			c: c, order: turnedOrder(n, i), cell: int64(i%260) - 1, from: int64(i%19) - 1, count: int64(i%7) - 1, workers: int64(i%11) - 1,
			list: slices.Repeat(numbers, 10)[i%len(numbers):][:i%259], fields: slices.Repeat([]complex64{complex(1, -2)}, n), tick: 0.25,
		}
		switch i % 5 {
		case 0:
			a.tick, a.order = numbers[i%len(numbers)], slices.Repeat([]int64{int64(i%3) - 1}, n)
		case 1:
			a.list, a.fields = s.numbers(i%300), oddComplexes()[i:i+n]
		case 2:
			a.order, a.fields = turnedOrder(n+1, i), a.fields[:n/2]
		}
		all = append(all, a)
	}
	return all
}

// kept are arguments with room behind their lists, and the wholes of these.
type kept struct {
	particles []impl.Particle
	order     []int64
	list      []float32
	fields    []complex64
}

func keepWorkers(a *workerArguments) kept {
	var k kept
	a.c.Particles, k.particles = withRoom(a.c.Particles, impl.Particle{At: 77, Speed: 78, Charge: 79, Mass: 80})
	a.order, k.order = withRoom(a.order, 77)
	a.list, k.list = withRoom(a.list, 77)
	a.fields, k.fields = withRoom(a.fields, 77)
	return k
}

func (k kept) clone() kept {
	return kept{slices.Clone(k.particles), slices.Clone(k.order), slices.Clone(k.list), slices.Clone(k.fields)}
}

func (k kept) equals(other kept) bool {
	return equalParticleBits(k.particles, other.particles) && slices.Equal(k.order, other.order) && equalBits(k.list, other.list) && slices.EqualFunc(k.fields, other.fields, equalParts)
}

// Every function returns the same for the same numbers, valid or not, in any
// order of calls, and leaves all that it gets as it is.
func TestArgumentsOfWorkersStayUnchanged(t *testing.T) {
	all := oddWorkers()
	var first []string
	var wholes, copies []kept
	for i := range all {
		whole := keepWorkers(&all[i])
		wholes, copies = append(wholes, whole), append(copies, whole.clone())
		first = append(first, workerCalls(all[i]))
	}
	for i := len(all) - 1; i >= 0; i-- {
		wantEqual(t, fmt.Sprintf("a second call with %.300v", all[i]), workerCalls(sameWorkersAgain(all[i])), first[i])
	}
	for i := range wholes {
		if !wholes[i].equals(copies[i]) {
			t.Fatalf("an argument has been changed: %.300v", copies[i])
		}
	}
}

// Lists may be parts of longer ones, and one list that of several arguments.
func TestWorkersMayShareArguments(t *testing.T) {
	s := newSource()
	for range 100 {
		whole, numbers, n := s.gentleCloud(48), s.numbers(200), s.Intn(40)
		a := s.withWorkers(withList(whole, whole.Particles[3:3+n]))
		a.list, a.fields = numbers[5:5+n], fieldsOfNumbers(numbers)[7:7+n]
		keptList, keptNumbers := slices.Clone(whole.Particles), slices.Clone(numbers)
		wantEqual(t, "calls with parts of lists", workerCalls(a), workerCalls(sameWorkersAgain(a)))
		if !equalParticleBits(whole.Particles, keptList) || !equalBits(numbers, keptNumbers) {
			t.Fatal("a list has been changed")
		}
	}
}

// resultsOfWorkers are all lists that functions return, also those of calls that
// change nothing.
func resultsOfWorkers(a workerArguments) (integers [][]int64, numbers [][]float32, lists [][]impl.Particle) {
	keepIntegers := func(list []int64, ok bool) { integers = append(integers, list) }
	keepNumbers := func(list []float32, ok bool) { numbers = append(numbers, list) }
	keepCloud := func(c impl.Cloud, ok bool) { lists = append(lists, c.Particles) }
	sorted, _ := impl.SortCloud(a.c)
	n := len(a.c.Particles)
	for _, c := range []impl.Cloud{a.c, sorted} {
		keepIntegers(impl.CellsOf(c))
		keepIntegers(impl.OrderOf(c))
		keepIntegers(impl.CountsOf(c))
		keepIntegers(impl.StartsOf(c))
		keepIntegers(impl.InCell(c, a.cell))
		keepIntegers(impl.CloudChecks(c))
		keepCloud(impl.SortCloud(c))
		keepCloud(impl.PermuteCloud(c, turnedOrder(n, 0)))
		keepCloud(impl.PermuteCloud(c, a.order))
	}
	for workers := int64(1); workers <= 8; workers++ {
		keepNumbers(impl.DepositShared(a.c, workers))
		keepNumbers(impl.DepositRows(a.c, 0, workers%4))
		keepCloud(impl.PushShared(a.c, a.fields, a.tick, workers))
		keepCloud(impl.PushShared(a.c, make([]complex64, n), 0, workers))
		rows, _ := impl.RowsFor(a.c.Grid, workers)
		integers = append(integers, rows...)
	}
	return integers, numbers, append(lists, sorted.Particles)
}

// Results that have been overwritten, also behind their ends, change neither
// arguments nor each other nor later results.
func TestResultsOfWorkersAreNew(t *testing.T) {
	s := newSource()
	a := s.withWorkers(s.crowdedCloud(impl.Grid{Wide: 4, High: 4}, 40))
	cell, _, _ := impl.FullestCell(a.c)
	a.cell, a.tick, a.workers, a.from, a.count = cell, 0.125, 3, 1, 2
	again, before := sameWorkersAgain(a), workerCalls(a)
	integers, numbers, lists := resultsOfWorkers(a)
	for i := range lists {
		wantEqual(t, fmt.Sprintf("whether the cloud %d is there", i), len(lists[i]), 40)
		keptOthers := slices.Concat(lists[i+1:]...)
		spoil(lists[i], impl.Particle{})
		if !equalParticleBits(slices.Concat(lists[i+1:]...), keptOthers) {
			t.Errorf("the cloud %d shares memory with another one", i)
		}
	}
	for i := range integers {
		wantEqual(t, fmt.Sprintf("whether the list %d is there", i), len(integers[i]) > 0, true)
		keptOthers := slices.Concat(integers[i+1:]...)
		spoil(integers[i], -9)
		if !slices.Equal(slices.Concat(integers[i+1:]...), keptOthers) {
			t.Errorf("the list %d shares memory with another one", i)
		}
	}
	for i := range numbers {
		keptOthers := slices.Concat(numbers[i+1:]...)
		spoil(numbers[i], 9)
		if !equalBits(slices.Concat(numbers[i+1:]...), keptOthers) {
			t.Errorf("the field %d shares memory with another one", i)
		}
	}
	if !equalParticleBits(a.c.Particles, again.c.Particles) || !slices.Equal(a.order, again.order) || !sameComplexes(a.fields, again.fields) {
		t.Error("a result shares memory with an argument")
	}
	wantEqual(t, "calls after results have been overwritten", workerCalls(a), before)
}

// Nil and empty lists are the same value.
func TestNilAndEmptyAreEqualForWorkers(t *testing.T) {
	for _, g := range oddGrids() {
		for workers := range int64(10) {
			none := workerArguments{c: impl.Cloud{Grid: g}, count: 1, workers: workers, tick: 1}
			empty := none
			empty.c.Particles, empty.order, empty.list, empty.fields = []impl.Particle{}, []int64{}, []float32{}, []complex64{}
			wantEqual(t, inGrid("calls without particles", g, workers), workerCalls(none), workerCalls(empty))
		}
	}
}

// A not-a-number with other bits is an equal argument.
func TestAllNotANumbersAreOneArgumentOfWorkers(t *testing.T) {
	g := impl.Grid{Wide: 4, High: 4}
	for _, bits := range []uint32{0x7f800001, 0xffc00000, 0xffffffff} {
		for i := range 28 {
			var calls []string
			for _, nan := range []float32{fromBits(0x7fc00000), fromBits(bits)} {
				numbers := repeated(float32(1), 28)
				numbers[i] = nan
				calls = append(calls, workerCalls(workerArguments{
					c: cloudAs(g, numbers[:14]), order: []int64{1, 0}, count: 4, workers: 2, list: numbers[14:23], fields: fieldsOfNumbers(numbers[23:27]), tick: numbers[27],
				}))
			}
			wantEqual(t, fmt.Sprintf("results with another not-a-number as number %d", i), calls[1], calls[0])
		}
	}
}

// Many calls at once, and many calls one after another, return what one does,
// whoever of all their workers is first.
func TestWorkersAtOnceAreEqual(t *testing.T) {
	s := newSource()
	for workers := int64(1); workers <= 8; workers++ {
		a := s.withWorkers(s.crowdedCloud(s.grid(), 48))
		a.tick, a.workers = 0.1, workers
		want := workerCalls(a)
		results := make(chan string)
		for range 32 {
			go func() { results <- workerCalls(a) }()
		}
		for range 32 {
			wantEqual(t, "workers at once", <-results, want)
		}
		for range 30 {
			wantEqual(t, "workers once more", workerCalls(a), want)
		}
	}
}

// Behind a call, none of its workers waits for anything. One that is just about
// to end may still be counted.
func TestNoWorkerIsLeft(t *testing.T) {
	s := newSource()
	before := runtime.NumGoroutine()
	for i := range 200 {
		a := s.withWorkers(s.crowdedCloud(s.grid(), i%49))
		a.tick, a.workers = 0.1, int64(i%10)
		workerCalls(a)
	}
	for range 1000 {
		if runtime.NumGoroutine() <= before {
			return
		}
		time.Sleep(time.Millisecond)
	}
	t.Errorf("%d goroutines have become %d", before, runtime.NumGoroutine())
}
