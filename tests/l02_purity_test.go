package tests

import (
	"fmt"
	"math"
	"slices"
	"strings"
	"testing"

	"loop.example/g01226/impl"
)

func equalParts(a, b complex64) bool {
	return equalBits([]float32{real(a), imag(a)}, []float32{real(b), imag(b)})
}

// equalParticleBits tells not-a-numbers with other bits apart.
func equalParticleBits(a, b []impl.Particle) bool {
	return slices.EqualFunc(a, b, func(p, q impl.Particle) bool {
		return equalParts(p.At, q.At) && equalParts(p.Speed, q.Speed) && equalBits([]float32{p.Charge, p.Mass}, []float32{q.Charge, q.Mass})
	})
}

func bitsOfList(list []float32) string {
	words := make([]string, len(list))
	for i, x := range list {
		words[i] = impl.Decimal(impl.BitsOf(x))
	}
	return strings.Join(words, " ")
}

func bitsOfParticles(list []impl.Particle) string {
	var numbers []float32
	for _, p := range list {
		numbers = append(numbers, real(p.At), imag(p.At), real(p.Speed), imag(p.Speed), p.Charge, p.Mass)
	}
	return bitsOfList(numbers)
}

// placeCalls tell what all functions with places alone return.
func placeCalls(g impl.Grid, a, b complex64) string {
	place, one := impl.WrapPlace(g, a)
	cell, two := impl.CellOf(g, a)
	way, three := impl.WayBetween(g, a, b)
	indices, shares, four := impl.SharesAt(g, a)
	return fmt.Sprint(impl.ValidGrid(g), complexBits(place), one, cell, two, complexBits(way), three, indices, bitsOfList(shares), four)
}

// fieldCalls tell what all functions with fields return.
func fieldCalls(g impl.Grid, x, y []float32, at complex64, by float32, n, m int64) string {
	one, first := impl.GatherOne(g, x, at)
	two, second := impl.GatherTwo(g, x, y, at)
	sums, third := impl.AddFields(g, x, y)
	products, fourth := impl.ScaleField(g, x, by)
	shifted, fifth := impl.ShiftField(g, x, n, m)
	total, sixth := impl.TotalOf(x)
	return fmt.Sprint(impl.IsField(g, x), impl.BitsOf(one), first, complexBits(two), second, bitsOfList(sums), third, bitsOfList(products), fourth, bitsOfList(shifted), fifth, impl.BitsOf(total), sixth)
}

// listCalls tell what all functions with particles return.
func listCalls(g impl.Grid, a, b []impl.Particle, by complex64) string {
	field, one := impl.DepositOf(g, a)
	counts, two := impl.CountCells(g, a)
	shifted, three := impl.ShiftParticles(g, a, by)
	turned, four := impl.TurnSpeeds(a)
	charge, five := impl.ChargeOf(a)
	momentum, six := impl.MomentumOf(a)
	energy, seven := impl.SpeedEnergyOf(a)
	same := fmt.Sprint(impl.AreParticles(a), impl.SameParticles(a, b), impl.SameParticles(b, a), len(a) > 0 && impl.ValidParticle(a[0]))
	return fmt.Sprint(same, bitsOfList(field), one, counts, two, bitsOfParticles(shifted), three, bitsOfParticles(turned), four, impl.BitsOf(charge), five, complexBits(momentum), six, impl.BitsOf(energy), seven)
}

// oddGrids are valid and invalid ones.
func oddGrids() []impl.Grid {
	return append(validGrids(), invalidGrids()...)
}

func TestEveryPlaceHasResultsAlwaysTheSame(t *testing.T) {
	places := oddComplexes()
	for _, g := range oddGrids() {
		results := make([]string, len(places))
		for i, at := range places {
			results[i] = placeCalls(g, at, places[(i*7+3)%len(places)])
		}
		for i := len(places) - 1; i >= 0; i-- {
			wantEqual(t, fmt.Sprintf("a second call in %v with %v", g, places[i]), placeCalls(g, places[i], places[(i*7+3)%len(places)]), results[i])
		}
	}
}

// oddFields have many lengths, also those of no grid, and any numbers.
func oddFields() [][]float32 {
	numbers := slices.Concat(oddNumbers(), oddNumbers())
	fields := [][]float32{nil, {}}
	for _, n := range []int{1, 15, 16, 17, 35, 64, 78, 256, 257, 300} {
		fields = append(fields, slices.Repeat(numbers, 10)[n%7:n%7+n], repeated(float32(0.3), n))
	}
	return fields
}

func TestFieldsStayUnchanged(t *testing.T) {
	for _, g := range oddGrids() {
		for i, source := range oddFields() {
			other := slices.Clone(source)
			slices.Reverse(other)
			x, wholeX := withRoom(source, 77)
			y, wholeY := withRoom(other, 78)
			keptX, keptY := slices.Clone(wholeX), slices.Clone(wholeY)
			at, by, n := complex(float32(i)/3, -0.7), oddNumbers()[i], int64(i*5%37-18)
			first := fieldCalls(g, x, y, at, by, n, 3)
			fieldCalls(g, y, x, 0, 1, 0, n)
			wantEqual(t, "a second call with fields", fieldCalls(g, slices.Clone(x), slices.Clone(y), at, by, n, 3), first)
			if !equalBits(wholeX, keptX) || !equalBits(wholeY, keptY) {
				t.Fatalf("a field of %d numbers has been changed in %v", len(x), g)
			}
		}
	}
}

// oddLists are valid and invalid lists of many lengths.
func oddLists() [][]impl.Particle {
	s := newSource()
	lists := append(invalidLists(), nil, []impl.Particle{}, invalidParticles())
	for _, n := range []int{1, 2, 7, 63, 64, 65} {
		lists = append(lists, s.particles(n))
	}
	return append(lists, repeated(impl.Particle{Speed: complex(0, minusZero()), Mass: math.MaxFloat32}, 3))
}

func TestListsOfParticlesStayUnchanged(t *testing.T) {
	filler := impl.Particle{At: 77, Speed: 78, Charge: 79, Mass: 80}
	for _, g := range oddGrids() {
		for _, source := range oddLists() {
			other := slices.Clone(source)
			slices.Reverse(other)
			a, wholeA := withRoom(source, filler)
			b, wholeB := withRoom(other, filler)
			keptA, keptB := slices.Clone(wholeA), slices.Clone(wholeB)
			first := listCalls(g, a, b, complex(1, -0.25))
			listCalls(g, b, a, complex(infinity(), 0))
			wantEqual(t, "a second call with particles", listCalls(g, slices.Clone(a), slices.Clone(b), complex(1, -0.25)), first)
			if !equalParticleBits(wholeA, keptA) || !equalParticleBits(wholeB, keptB) {
				t.Fatalf("a list of %d particles has been changed in %v", len(a), g)
			}
		}
	}
}

// Results that have been overwritten change neither arguments nor later results.
func TestResultsOfGridsAreNew(t *testing.T) {
	g, s := impl.Grid{Wide: 5, High: 7}, newSource()
	x, y, list := s.field(g), s.field(g), s.particles(9)
	keptX, keptY, keptList := slices.Clone(x), slices.Clone(y), slices.Clone(list)
	before := fieldCalls(g, x, y, 1.5, 2, 0, 0) + listCalls(g, list, list, 0) + placeCalls(g, 1.5, 2)
	for range 2 {
		sums, _ := impl.AddFields(g, x, y)
		products, _ := impl.ScaleField(g, x, 1)
		shifted, _ := impl.ShiftField(g, x, 0, 0)
		field, _ := impl.DepositOf(g, list)
		counts, _ := impl.CountCells(g, list)
		moved, _ := impl.ShiftParticles(g, list, 0)
		turned, _ := impl.TurnSpeeds(list)
		indices, shares, _ := impl.SharesAt(g, 1.5)
		spoil(sums, 9)
		spoil(products, 9)
		spoil(shifted, 9)
		spoil(field, 9)
		spoil(counts, 9)
		spoil(moved, impl.Particle{})
		spoil(turned, impl.Particle{})
		spoil(indices, 9)
		wantField(t, "shares beside overwritten corners", shares, []float32{0.5, 0.5, 0, 0})
		spoil(shares, 9)
	}
	if !equalBits(x, keptX) || !equalBits(y, keptY) || !equalParticleBits(list, keptList) {
		t.Error("a result shares memory with an argument")
	}
	wantEqual(t, "calls after results have been overwritten", fieldCalls(g, x, y, 1.5, 2, 0, 0)+listCalls(g, list, list, 0)+placeCalls(g, 1.5, 2), before)
}

// Nil and empty lists are the same value.
func TestNilAndEmptyAreEqual(t *testing.T) {
	for _, g := range oddGrids() {
		wantEqual(t, "calls with no particles", listCalls(g, nil, []impl.Particle{}, 1), listCalls(g, []impl.Particle{}, nil, 1))
		wantEqual(t, "calls with no numbers", fieldCalls(g, nil, []float32{}, 1, 1, 1, 1), fieldCalls(g, []float32{}, nil, 1, 1, 1, 1))
	}
}

// A not-a-number with other bits is an equal argument.
func TestAllNotANumbersAreOneArgumentOfFields(t *testing.T) {
	g := impl.Grid{Wide: 4, High: 4}
	for _, bits := range []uint32{0x7f800001, 0xffc00000, 0xffffffff} {
		one, other := fromBits(0x7fc00000), fromBits(bits)
		for i := range 16 {
			x, y := repeated(float32(2), 16), repeated(float32(2), 16)
			x[i], y[i] = one, other
			wantEqual(t, "results of equal fields", fieldCalls(g, y, x, complex(1.5, 1.5), other, 1, 2), fieldCalls(g, x, y, complex(1.5, 1.5), one, 1, 2))
		}
		p, q := ordinaryParticle(), ordinaryParticle()
		p.Charge, q.Charge = one, other
		wantEqual(t, "results of equal particles", listCalls(g, []impl.Particle{p}, []impl.Particle{q}, 1), listCalls(g, []impl.Particle{q}, []impl.Particle{p}, 1))
		wantEqual(t, "results of equal places", placeCalls(g, complex(other, 1), 1), placeCalls(g, complex(one, 1), 1))
	}
}
