package tests

import (
	"fmt"
	"math"
	"slices"
	"testing"

	"loop.example/g01226/impl"
)

// placed are particles at places.
func placed(places ...complex64) []impl.Particle {
	var list []impl.Particle
	for _, place := range places {
		list = append(list, at(place))
	}
	return list
}

func wantPairs(t *testing.T, g impl.Grid, list []impl.Particle, want ...int64) {
	t.Helper()
	got, ok := impl.PairsIn(g, list)
	wantEqual(t, fmt.Sprintf("PairsIn %v of %v", g, list), wordOfPairs(got, ok), wordOfList(true, nil, want...))
}

// The cells come in their order, whatever the order of the list, and the particles
// in theirs.
func TestPairsIn(t *testing.T) {
	g := impl.Grid{Wide: 4, High: 5}
	a, b, c, last := complex64(complex(0.5, 0.25)), complex64(complex(1, 0)), complex64(complex(0, 1)), complex64(complex(3.5, 4.5))
	for _, w := range []struct {
		places []complex64
		want   []int64
	}{
		{nil, nil},
		{[]complex64{a}, nil},
		{[]complex64{a, b, c, last}, nil},
		{[]complex64{a, a}, []int64{0, 1}},
		{[]complex64{last, last}, []int64{0, 1}},
		{[]complex64{a, a, a}, []int64{0, 1}},
		{[]complex64{a, a, a, a}, []int64{0, 1, 2, 3}},
		{[]complex64{a, a, a, a, a}, []int64{0, 1, 2, 3}},
		{[]complex64{a, b, a}, []int64{0, 2}},
		{[]complex64{a, b, b, a}, []int64{0, 3, 1, 2}},
		{[]complex64{b, a, b, a}, []int64{1, 3, 0, 2}},
		{[]complex64{last, c, b, a, last, c, b, a}, []int64{3, 7, 2, 6, 1, 5, 0, 4}},
		{[]complex64{last, c, last, b, last, b, last, a, last}, []int64{3, 5, 0, 2, 4, 6}},
		{[]complex64{c, a, c, a, c, a, b, c}, []int64{1, 3, 0, 2, 4, 7}},
	} {
		wantPairs(t, g, placed(w.places...), w.want...)
	}
}

// A cell has what is in it from its first corner on, and before the next ones;
// places beyond the edges are wrapped.
func TestPairsAtEdges(t *testing.T) {
	g, least, huge := impl.Grid{Wide: 4, High: 5}, fromBits(1), float32(math.MaxFloat32)
	for _, c := range []struct {
		a, b complex64
		pair bool
	}{
		{complex(1, 1), complex(below(2), below(2)), true},
		{complex(1, 1), complex(2, 1), false},
		{complex(1, 1), complex(1, 2), false},
		{complex(1, 1), complex(below(1), 1), false},
		{complex(1, 1), complex(1, below(1)), false},
		{0, complex(minusZero(), minusZero()), true},
		{0, complex(4, 5), true},
		{0, complex(-4, -5), true},
		{0, complex(400, -500), true},
		{0, complex(below(4), 0), false},
		{0, complex(0, below(5)), false},
		{complex(3, 4), complex(below(4), below(5)), true},
		{complex(3, 4), complex(-0.5, -0.5), true},
		{complex(3, 4), complex(-1, -1), true},
		{complex(3, 4), complex(7.5, 9.5), true},
		{complex(3, 4), complex(-1.5, -0.5), false},
		{0, complex(-least, -least), true},
		{0, complex(least, least), true},
		{complex(wrapWanted(huge, 4), wrapWanted(-huge, 5)), complex(huge, -huge), true},
	} {
		want := []int64{0, 1}
		if !c.pair {
			want = nil
		}
		wantPairs(t, g, placed(c.a, c.b), want...)
		wantPairs(t, g, placed(c.b, c.a), want...)
	}
}

// One particle alone in each cell makes no pair, and a second one in one of them
// makes one.
func TestParticlesAloneInTheirCells(t *testing.T) {
	for _, g := range []impl.Grid{{Wide: 4, High: 4}, {Wide: 8, High: 8}, {Wide: 4, High: 16}, {Wide: 16, High: 4}, {Wide: 5, High: 7}, {Wide: 16, High: 16}} {
		var list []impl.Particle
		for cell := min(g.Wide*g.High, 64) - 1; cell >= 0; cell-- {
			list = append(list, at(complex(float32(cell%g.Wide)+0.5, float32(cell/g.Wide)+0.25)))
		}
		wantPairs(t, g, list)
		for i, p := range list {
			twice := append(slices.Clone(list[1:]), p)
			if i > 0 {
				wantPairs(t, g, twice, int64(i)-1, int64(len(twice))-1)
			} else {
				wantPairs(t, g, twice)
			}
		}
	}
}

func TestPairsOfFullCells(t *testing.T) {
	for _, g := range validGrids() {
		for n := range 65 {
			var want []int64
			for i := range int64(n / 2 * 2) {
				want = append(want, i)
			}
			wantPairs(t, g, repeated(at(complex(float32(g.Wide)-0.5, 1)), n), want...)
		}
	}
}

// In each cell, all particles have a pair, but for the last one of an odd number.
func TestPairsHaveAllParticlesOnce(t *testing.T) {
	s := newSource()
	for range 500 {
		g := s.grid()
		list := s.anyCloud(s.Intn(49)).Particles
		pairs, ok := impl.PairsIn(g, list)
		wantEqual(t, "PairsIn succeeds", ok, true)
		seen, last := make(map[int64]bool), int64(-1)
		left, _ := impl.CountCells(g, list)
		for _, pair := range pairs {
			a, _ := impl.CellOf(g, list[pair[0]].At)
			b, _ := impl.CellOf(g, list[pair[1]].At)
			if a != b || a < last || pair[0] >= pair[1] || seen[pair[0]] || seen[pair[1]] {
				t.Fatalf("PairsIn %v of %v: %v", g, list, pairs)
			}
			seen[pair[0]], seen[pair[1]], last = true, true, a
			left[a] -= 2
		}
		for cell, n := range left {
			if n != 0 && n != 1 {
				t.Errorf("PairsIn leaves %d particles over in the cell %d", n, cell)
			}
		}
	}
}

// wantMet compares with meetings that are made one by one, in the order of pairs.
func wantMet(t *testing.T, g impl.Grid, list []impl.Particle, seed int64, share float32) int64 {
	t.Helper()
	pairs, _ := impl.PairsIn(g, list)
	want, then, count := slices.Clone(list), seed, int64(0)
	for _, pair := range pairs {
		if use(t, &then) < share {
			a, b, ok := impl.MeetSpeeds(want[pair[0]], want[pair[1]], use(t, &then))
			wantEqual(t, "MeetSpeeds succeeds", ok, true)
			want[pair[0]], want[pair[1]] = a, b
			count++
		}
	}
	got, met, last, ok := impl.MeetAll(g, list, seed, share)
	what := fmt.Sprintf("MeetAll %d with the share %v", seed, share)
	wantEqual(t, what+" succeeds", ok, true)
	wantParticles(t, what, got, want)
	wantEqual(t, what+", how many", met, count)
	wantEqual(t, what+", the seed", last, then)
	return met
}

func TestMeetAll(t *testing.T) {
	s := newSource()
	for range 300 {
		g, n := impl.Grid{Wide: 4, High: 4}, s.Intn(65)
		var list []impl.Particle
		for range n {
			list = append(list, s.gentle().p)
		}
		for _, seed := range []int64{0, 1, 2147483646, 2147483647, s.Int63n(1 << 31)} {
			wantMet(t, g, list, seed, float32(s.Float64()))
			wantMet(t, s.grid(), list, seed, float32(s.Float64()))
		}
	}
}

// With a share of 0, less, or none at all, nobody meets, and the seed is used once
// for each pair; with one of 1 or more, all pairs do, and it is used twice.
func TestSharesOfMeetings(t *testing.T) {
	s := newSource()
	for range 100 {
		g, list, seed := s.grid(), s.gentleCloud(s.Intn(49)).Particles, s.Int63n(1<<31)
		pairs, _ := impl.PairsIn(g, list)
		for _, share := range []float32{0, minusZero(), -fromBits(1), -1, -math.MaxFloat32, -infinity(), notANumber(), fromBits(0x7fc00000), fromBits(0x7f800001)} {
			wantEqual(t, "how many meet", wantMet(t, g, list, seed, share), 0)
			got, _, last, _ := impl.MeetAll(g, list, seed, share)
			wantParticles(t, "who does not meet", got, list)
			wantEqual(t, "the seed that is used once", last, seedBehind(t, seed, len(pairs)))
		}
		for _, share := range []float32{1 - 0x1p-15 + 0x1p-23, 1, above(1), 2, math.MaxFloat32, infinity()} {
			wantEqual(t, "how many meet", wantMet(t, g, list, seed, share), int64(len(pairs)))
			_, _, last, _ := impl.MeetAll(g, list, seed, share)
			wantEqual(t, "the seed that is used twice", last, seedBehind(t, seed, 2*len(pairs)))
		}
	}
}

// The number of the seed must be less than the share, and not equal to it.
func TestSharesThatAreTheNumber(t *testing.T) {
	g, list := impl.Grid{Wide: 4, High: 4}, repeated(at(1), 2)
	for _, seed := range []int64{0, 7, 12345, 2147483647, 99} {
		then := seed
		unit := use(t, &then)
		for _, c := range []struct {
			share float32
			met   int64
		}{{unit, 0}, {below(unit), 0}, {above(unit), 1}} {
			wantEqual(t, fmt.Sprintf("how many meet with the share %v at %v", c.share, unit), wantMet(t, g, list, seed, c.share), c.met)
		}
	}
}

// Where nobody has a pair, the seed is not used.
func TestMeetingsWithoutPairs(t *testing.T) {
	for _, g := range allGrids() {
		for _, list := range [][]impl.Particle{nil, {}, placed(1), placed(0, 1, complex(0, 1), complex(3, 3))} {
			for _, seed := range []int64{0, 5, 2147483647} {
				got, met, last, ok := impl.MeetAll(g, list, seed, 1)
				wantEqual(t, "MeetAll without pairs", wordOfList(ok, got, met, last), wordOfList(true, list, 0, seed))
			}
		}
	}
}

// Who is left over in a cell stays as it is, and so do places, charges and masses.
func TestMeetingsLeaveOthersAlone(t *testing.T) {
	s := newSource()
	for range 200 {
		g, list := impl.Grid{Wide: 5, High: 4}, s.gentleCloud(40).Particles
		got, _, _, ok := impl.MeetAll(g, list, s.Int63n(1<<31), 1)
		wantEqual(t, "MeetAll succeeds", ok, true)
		pairs, _ := impl.PairsIn(g, list)
		inPair := slices.Concat(pairs...)
		for i, p := range list {
			if slices.Contains(inPair, int64(i)) {
				p.Speed = got[i].Speed
			}
			wantParticles(t, "MeetAll but for the speeds of pairs", got[i:i+1], []impl.Particle{p})
		}
	}
}

func TestAllMeetingsKeepMomentumAndEnergy(t *testing.T) {
	s := newSource()
	for range 500 {
		g, n := impl.Grid{Wide: 4, High: 4}, 2+s.Intn(63)
		var list []impl.Particle
		for range n {
			list = append(list, s.gentle().p)
		}
		seed := s.Int63n(1 << 31)
		for range 5 {
			got, _, then, ok := impl.MeetAll(g, list, seed, 0.8)
			wantEqual(t, "MeetAll succeeds", ok, true)
			wantKept(t, "MeetAll", list, got, 1e-5)
			list, seed = got, then
		}
	}
}

// One pair that can't meet makes all fail, but only if it does meet.
func TestMeetingsFailWithOnePair(t *testing.T) {
	const huge = math.MaxFloat32
	g := impl.Grid{Wide: 4, High: 4}
	for cell := range 16 {
		var list []impl.Particle
		for k := range 32 {
			list = append(list, at(complex(float32(k%4), float32(k/4%4))))
		}
		list[cell].Speed, list[cell+16].Speed = huge, -huge
		got, met, _, ok := impl.MeetAll(g, list, 3, 0)
		wantEqual(t, "whether MeetAll without meetings succeeds", ok && met == 0, true)
		wantParticles(t, "MeetAll without meetings", got, list)
		_, _, _, ok = impl.MeetAll(g, list, 3, 1)
		wantEqual(t, "whether MeetAll succeeds", ok, false)
		wantFailures(t, []badCall{{"MeetAll", call3(impl.MeetAll(g, list, 3, 1))}})
	}
}
