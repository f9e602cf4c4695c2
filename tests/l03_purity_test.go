package tests

import (
	"fmt"
	"slices"
	"strings"
	"testing"

	"loop.example/g01226/impl"
)

// bitsOfResult tells a list and whether the call has succeeded.
func bitsOfResult(list []float32, ok bool) string {
	return fmt.Sprint(bitsOfList(list), ok)
}

func bitsOfNumber(x float32, ok bool) string {
	return fmt.Sprint(impl.BitsOf(x), ok)
}

func bitsOfGrid(g impl.Grid, list []float32, ok bool) string {
	return fmt.Sprint(g, bitsOfList(list), ok)
}

// potentialCalls tell what all functions with fields return.
func potentialCalls(g impl.Grid, v, charge []float32, colour, workers, rounds int64) string {
	x, y, ok := impl.FieldsOf(g, v)
	return strings.Join([]string{
		bitsOfNumber(impl.MeanOf(g, charge)), bitsOfResult(impl.WithoutMean(g, charge)), bitsOfResult(impl.LaplaceOf(g, v)),
		bitsOfNumber(impl.ResidualOf(g, v, charge)), bitsOfResult(impl.SweepColour(g, v, charge, colour)),
		bitsOfResult(impl.SweepShared(g, v, charge, colour, workers)), bitsOfResult(impl.SolvePotential(g, charge, rounds)),
		bitsOfResult(impl.SweepRows(g, v, charge)), bitsOfGrid(impl.CoarseField(g, v)), bitsOfGrid(impl.FineField(g, v)),
		bitsOfResult(impl.TwoGrids(g, v, charge, rounds)), bitsOfResult(x, ok), bitsOfResult(y, ok), bitsOfNumber(impl.FieldEnergy(g, v, charge)),
	}, ";")
}

// rowCalls tell what the functions with rows return.
func rowCalls(lower, middle, upper, right []float32) string {
	return bitsOfResult(impl.SolveRow(lower, middle, upper, right)) + ";" + bitsOfResult(impl.SolveRing(right))
}

// gridsOfPotentials are such as all functions take, such as some take, and invalid ones.
func gridsOfPotentials() []impl.Grid {
	return append(oddGrids(), impl.Grid{Wide: 8, High: 8}, impl.Grid{Wide: 8, High: 16}, impl.Grid{Wide: 7, High: 8})
}

func TestPotentialsStayUnchanged(t *testing.T) {
	for _, g := range gridsOfPotentials() {
		fields := append(oddFields(), patterned(56, 3), patterned(64, 5), patterned(128, 7))
		for i, source := range fields {
			other := slices.Clone(source)
			slices.Reverse(other)
			v, wholeV := withRoom(source, 77)
			charge, wholeCharge := withRoom(other, 78)
			keptV, keptCharge := slices.Clone(wholeV), slices.Clone(wholeCharge)
			colour, workers, rounds := int64(i%2), int64(1+i%8), int64(i%3)
			first := potentialCalls(g, v, charge, colour, workers, rounds)
			potentialCalls(g, charge, v, 1-colour, 9-workers, 2)
			wantEqual(t, inGrid("a second call with potentials", g), potentialCalls(g, slices.Clone(v), slices.Clone(charge), colour, workers, rounds), first)
			if !equalBits(wholeV, keptV) || !equalBits(wholeCharge, keptCharge) {
				t.Fatalf("a field of %d numbers has been changed in %v", len(v), g)
			}
		}
	}
}

// One list may come as several arguments, also as parts of one memory.
func TestPotentialsMayShareArguments(t *testing.T) {
	for _, g := range gridsOfPotentials() {
		for _, n := range []int{16, 35, 64, 78, 128, 256} {
			field := patterned(n, 4)
			kept := slices.Clone(field)
			wantEqual(t, inGrid("a call with one field twice", g), potentialCalls(g, field, field, 0, 3, 2), potentialCalls(g, kept, slices.Clone(kept), 0, 3, 2))
			if !equalBits(field, kept) {
				t.Fatalf("a field of %d numbers has been changed in %v", n, g)
			}
		}
	}
}

func TestRowsStayUnchanged(t *testing.T) {
	s := newSource()
	for _, n := range []int{0, 1, 2, 3, 4, 16, 100, 255, 256, 257} {
		for _, odd := range append(oddNumbers(), 5) {
			var lists, wholes, kept [4][]float32
			for i := range lists {
				source := s.numbers(n)
				if i < n {
					source[i] = odd
				}
				lists[i], wholes[i] = withRoom(source, 77)
				kept[i] = slices.Clone(wholes[i])
			}
			first := rowCalls(lists[0], lists[1], lists[2], lists[3])
			rowCalls(lists[3], lists[2], lists[1], lists[0])
			rowCalls(lists[1], lists[1], lists[1], lists[1])
			wantEqual(t, "a second call with rows", rowCalls(slices.Clone(lists[0]), slices.Clone(lists[1]), slices.Clone(lists[2]), slices.Clone(lists[3])), first)
			for i := range lists {
				if !equalBits(wholes[i], kept[i]) {
					t.Fatalf("a list of %d numbers has been changed", n)
				}
			}
		}
	}
}

// Results that have been overwritten change neither arguments nor later results.
func TestResultsOfPotentialsAreNew(t *testing.T) {
	g := impl.Grid{Wide: 8, High: 8}
	v, charge := patterned(64, 1), patterned(64, 2)
	keptV, keptCharge := slices.Clone(v), slices.Clone(charge)
	before := potentialCalls(g, v, charge, 0, 3, 1) + rowCalls(v, charge, v, charge)
	for range 2 {
		for _, list := range resultsOfPotentials(g, v, charge) {
			spoil(list, 9)
		}
	}
	if !equalBits(v, keptV) || !equalBits(charge, keptCharge) {
		t.Error("a result shares memory with an argument")
	}
	wantEqual(t, "calls after results have been overwritten", potentialCalls(g, v, charge, 0, 3, 1)+rowCalls(v, charge, v, charge), before)
	x, y, _ := impl.FieldsOf(g, v)
	kept := slices.Clone(y)
	spoil(x, 9)
	wantField(t, "FieldsOf, Y beside an overwritten X", y, kept)
}

// resultsOfPotentials are all lists that the functions return, also for no
// rounds and for fields that stay as they are.
func resultsOfPotentials(g impl.Grid, v, charge []float32) [][]float32 {
	var lists [][]float32
	keep := func(list []float32, ok bool) { lists = append(lists, list) }
	keep(impl.WithoutMean(g, charge))
	keep(impl.LaplaceOf(g, v))
	keep(impl.SweepRows(g, v, charge))
	keep(impl.SolveRow(v, charge, v, charge))
	keep(impl.SolveRing(charge))
	for n := range int64(2) {
		keep(impl.SweepColour(g, v, charge, n))
		keep(impl.SweepShared(g, v, charge, n, 4))
		keep(impl.SolvePotential(g, charge, n))
		keep(impl.TwoGrids(g, v, charge, n))
	}
	_, coarse, _ := impl.CoarseField(g, v)
	_, fine, _ := impl.FineField(g, v)
	x, y, _ := impl.FieldsOf(g, v)
	return append(lists, coarse, fine, x, y)
}

func TestNilAndEmptyPotentialsAreEqual(t *testing.T) {
	none := []float32{}
	for _, g := range gridsOfPotentials() {
		wantEqual(t, "calls with no numbers", potentialCalls(g, nil, none, 0, 1, 1), potentialCalls(g, none, nil, 0, 1, 1))
	}
	wantEqual(t, "calls with no rows", rowCalls(nil, none, nil, none), rowCalls(none, nil, none, nil))
}

// A not-a-number with other bits is an equal argument.
func TestAllNotANumbersAreOneArgumentOfPotentials(t *testing.T) {
	g := impl.Grid{Wide: 8, High: 8}
	for _, bits := range []uint32{0x7f800001, 0xffc00000, 0xffffffff} {
		for i := range 64 {
			one, other := patterned(64, 1), patterned(64, 1)
			one[i], other[i] = fromBits(0x7fc00000), fromBits(bits)
			two := patterned(64, 2)
			wantEqual(t, "results of equal potentials", potentialCalls(g, other, two, 0, 2, 1), potentialCalls(g, one, two, 0, 2, 1))
			wantEqual(t, "results of equal charges", potentialCalls(g, two, other, 1, 5, 1), potentialCalls(g, two, one, 1, 5, 1))
			wantEqual(t, "results of equal rows", rowCalls(two, other, two, other), rowCalls(two, one, two, one))
		}
	}
}

// Calls that run at once, with the same arguments, return what one call returns.
func TestCallsAtOnceAreEqual(t *testing.T) {
	g := impl.Grid{Wide: 16, High: 16}
	v, charge := patterned(256, 1), patterned(256, 2)
	want := bitsOfResult(impl.SweepColour(g, v, charge, 1))
	results := make(chan string)
	for k := range int64(64) {
		go func() { results <- bitsOfResult(impl.SweepShared(g, v, charge, 1, k%8+1)) }()
	}
	for range 64 {
		wantEqual(t, "SweepShared at once", <-results, want)
	}
}
