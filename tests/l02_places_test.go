package tests

import (
	"fmt"
	"math"
	"slices"
	"testing"

	"loop.example/g01226/impl"
)

// placeCases come from a calculation outside of this project.
type placeCase struct {
	g                  impl.Grid
	x, y               uint32
	wrappedX, wrappedY uint32
	corners            [4]int64
	shares             [4]uint32
}

func placeCases() []placeCase {
	return []placeCase{
		{impl.Grid{Wide: 4, High: 4}, 0x40900000, 0xbe800000, 0x3f000000, 0x40700000, [4]int64{12, 13, 0, 1}, [4]uint32{0x3e000000, 0x3e000000, 0x3ec00000, 0x3ec00000}},
		{impl.Grid{Wide: 4, High: 4}, 0x3dcccccd, 0x3e99999a, 0x3dcccccd, 0x3e99999a, [4]int64{0, 1, 4, 5}, [4]uint32{0x3f2147ae, 0x3d8f5c29, 0x3e8a3d71, 0x3cf5c290}},
		{impl.Grid{Wide: 4, High: 4}, 0x4079999a, 0x3fd9999a, 0x4079999a, 0x3fd9999a, [4]int64{7, 4, 11, 8}, [4]uint32{0x3cf5c27d, 0x3e8a3d70, 0x3d8f5c21, 0x3f2147b0}},
		{impl.Grid{Wide: 5, High: 7}, 0xbdcccccd, 0xc154cccd, 0x409ccccd, 0x3f333330, [4]int64{4, 0, 9, 5}, [4]uint32{0x3cf5c28a, 0x3e8a3d77, 0x3d8f5c1d, 0x3f2147ac}},
		{impl.Grid{Wide: 16, High: 16}, 0x417b3333, 0x4171999a, 0x417b3333, 0x4171999a, [4]int64{255, 240, 15, 0}, [4]uint32{0x3e8a3d73, 0x3f2147a7, 0x3cf5c2d7, 0x3d8f5c4a}},
		{impl.Grid{Wide: 16, High: 4}, 0xc2c8999a, 0x447a2666, 0x413b3330, 0x3f199800, [4]int64{11, 12, 27, 28}, [4]uint32{0x3df5c70a, 0x3e8f5e3d, 0x3e38507b, 0x3ed707c3}},
		{impl.Grid{Wide: 7, High: 5}, 0x47f1205a, 0xc5ef3266, 0x40968000, 0x3f334000, [4]int64{4, 5, 11, 12}, [4]uint32{0x3db64800, 0x3e57dc00, 0x3e54dc00, 0x3efc1200}},
		{impl.Grid{Wide: 9, High: 11}, 0x49742406, 0xc974240d, 0x3fb00000, 0x41130000, [4]int64{82, 83, 91, 92}, [4]uint32{0x3f020000, 0x3e9c0000, 0x3df00000, 0x3d900000}},
		{impl.Grid{Wide: 5, High: 4}, 0x00000001, 0x3f000000, 0x00000001, 0x3f000000, [4]int64{0, 1, 5, 6}, [4]uint32{0x3f000000, 0x00000000, 0x3f000000, 0x00000000}},
		{impl.Grid{Wide: 5, High: 4}, 0x00000003, 0x3f000000, 0x00000003, 0x3f000000, [4]int64{0, 1, 5, 6}, [4]uint32{0x3f000000, 0x00000002, 0x3f000000, 0x00000002}},
		{impl.Grid{Wide: 4, High: 5}, 0x3e800000, 0x00000002, 0x3e800000, 0x00000002, [4]int64{0, 1, 4, 5}, [4]uint32{0x3f400000, 0x3e800000, 0x00000002, 0x00000000}},
		{impl.Grid{Wide: 4, High: 4}, 0x007fffff, 0x00800000, 0x007fffff, 0x00800000, [4]int64{0, 1, 4, 5}, [4]uint32{0x3f800000, 0x007fffff, 0x00800000, 0x00000000}},
		{impl.Grid{Wide: 16, High: 16}, 0x80000001, 0x807fffff, 0x00000000, 0x00000000, [4]int64{0, 1, 16, 17}, [4]uint32{0x3f800000, 0x00000000, 0x00000000, 0x00000000}},
		{impl.Grid{Wide: 4, High: 4}, 0x407fffff, 0x40800001, 0x407fffff, 0x35000000, [4]int64{3, 0, 7, 4}, [4]uint32{0x347ffff8, 0x3f7ffff4, 0x2a000000, 0x34fffffc}},
		{impl.Grid{Wide: 4, High: 4}, 0xc07fffff, 0xc0800001, 0x34800000, 0x407ffffe, [4]int64{12, 13, 0, 1}, [4]uint32{0x34fffffc, 0x2a000000, 0x3f7ffff4, 0x347ffff8}},
		{impl.Grid{Wide: 16, High: 13}, 0x417fffff, 0xc1500001, 0x417fffff, 0x414fffff, [4]int64{207, 192, 15, 0}, [4]uint32{0x2b800000, 0x357ffff0, 0x357ffff0, 0x3f7fffe0}},
		{impl.Grid{Wide: 4, High: 16}, 0xb4000000, 0xb5000000, 0x00000000, 0x00000000, [4]int64{0, 1, 4, 5}, [4]uint32{0x3f800000, 0x00000000, 0x00000000, 0x00000000}},
		{impl.Grid{Wide: 4, High: 16}, 0xb4000001, 0xb5000001, 0x407fffff, 0x417fffff, [4]int64{63, 60, 3, 0}, [4]uint32{0x2a800000, 0x357ffffc, 0x347ffff0, 0x3f7fffec}},
		{impl.Grid{Wide: 4, High: 4}, 0xb3ffffff, 0xb4800000, 0x00000000, 0x407fffff, [4]int64{12, 13, 0, 1}, [4]uint32{0x34800000, 0x00000000, 0x3f7ffffc, 0x00000000}},
		{impl.Grid{Wide: 13, High: 14}, 0x51dbc8fb, 0xd8bf1f65, 0x41000000, 0x40000000, [4]int64{34, 35, 47, 48}, [4]uint32{0x3f800000, 0x00000000, 0x00000000, 0x00000000}},
		{impl.Grid{Wide: 15, High: 7}, 0xd6ddbe44, 0xd22e9c82, 0x41000000, 0x40000000, [4]int64{38, 39, 53, 54}, [4]uint32{0x3f800000, 0x00000000, 0x00000000, 0x00000000}},
		{impl.Grid{Wide: 11, High: 13}, 0x5a09e713, 0x5a6f24bf, 0x41000000, 0x40800000, [4]int64{52, 53, 63, 64}, [4]uint32{0x3f800000, 0x00000000, 0x00000000, 0x00000000}},
		{impl.Grid{Wide: 15, High: 9}, 0xdadf2724, 0x5b785b7e, 0x00000000, 0x00000000, [4]int64{0, 1, 15, 16}, [4]uint32{0x3f800000, 0x00000000, 0x00000000, 0x00000000}},
		{impl.Grid{Wide: 9, High: 5}, 0x64324f3e, 0xe25e0730, 0x00000000, 0x00000000, [4]int64{0, 1, 9, 10}, [4]uint32{0x3f800000, 0x00000000, 0x00000000, 0x00000000}},
		{impl.Grid{Wide: 7, High: 11}, 0xeacf2e84, 0x5d5cd506, 0x00000000, 0x00000000, [4]int64{0, 1, 7, 8}, [4]uint32{0x3f800000, 0x00000000, 0x00000000, 0x00000000}},
		{impl.Grid{Wide: 5, High: 16}, 0x7f7fffff, 0xff7fffff, 0x00000000, 0x00000000, [4]int64{0, 1, 5, 6}, [4]uint32{0x3f800000, 0x00000000, 0x00000000, 0x00000000}},
		{impl.Grid{Wide: 10, High: 6}, 0x4c000001, 0xcc000003, 0x40c00000, 0x40800000, [4]int64{46, 47, 56, 57}, [4]uint32{0x3f800000, 0x00000000, 0x00000000, 0x00000000}},
	}
}

type wayCase struct {
	g    impl.Grid
	a, b complex64
	x, y uint32
}

func wayCases() []wayCase {
	return []wayCase{
		{impl.Grid{Wide: 5, High: 7}, complex(0.10000000149011612, 0.20000000298023224), complex(4.900000095367432, 6.900000095367432), 0xbe4cccc0, 0xbe999990},
		{impl.Grid{Wide: 5, High: 7}, complex(4.900000095367432, 6.900000095367432), complex(0.10000000149011612, 0.20000000298023224), 0x3e4cccc0, 0x3e999990},
		{impl.Grid{Wide: 4, High: 4}, complex(9.99999993922529e-09, 0.30000001192092896), complex(2.0, 2.299999952316284), 0x40000000, 0x40000000},
		{impl.Grid{Wide: 15, High: 16}, complex(0.699999988079071, 15.899999618530273), complex(8.300000190734863, 0.10000000149011612), 0xc0eccccc, 0x3e4ccd00},
		{impl.Grid{Wide: 6, High: 11}, complex(-0.30000001192092896, 12.100000381469727), complex(100.69999694824219, -50.900001525878906), 0xbf800018, 0x403ffff8},
		{impl.Grid{Wide: 16, High: 4}, complex(0.10000000149011612, -9.999999717180685e-10), complex(15.899999618530273, 3.999999761581421), 0xbe4ccd00, 0xb4800000},
	}
}

func TestPlacesAgainstAnotherCalculation(t *testing.T) {
	for _, c := range placeCases() {
		at := complex(fromBits(c.x), fromBits(c.y))
		what := fmt.Sprintf("(%v, %v)", c.g, at)
		place, ok := impl.WrapPlace(c.g, at)
		wantComplex(t, "WrapPlace"+what, place, complex(fromBits(c.wrappedX), fromBits(c.wrappedY)))
		wantEqual(t, "WrapPlace succeeds"+what, ok, true)
		cell, ok := impl.CellOf(c.g, at)
		wantEqual(t, "CellOf"+what, cell, c.corners[0])
		wantEqual(t, "CellOf succeeds"+what, ok, true)
		wantShares(t, c.g, at, c.corners[:], []float32{fromBits(c.shares[0]), fromBits(c.shares[1]), fromBits(c.shares[2]), fromBits(c.shares[3])})
	}
}

func wantShares(t *testing.T, g impl.Grid, at complex64, corners []int64, shares []float32) {
	t.Helper()
	gotCorners, gotShares, ok := impl.SharesAt(g, at)
	what := fmt.Sprintf("SharesAt(%v, %v)", g, at)
	if !slices.Equal(gotCorners, corners) {
		t.Errorf("%s: got the corners %v, want %v", what, gotCorners, corners)
	}
	wantField(t, what, gotShares, shares)
	wantEqual(t, what+" succeeds", ok, true)
}

func wantWrapped(t *testing.T, g impl.Grid, at, want complex64) {
	t.Helper()
	got, ok := impl.WrapPlace(g, at)
	wantComplex(t, fmt.Sprintf("WrapPlace(%v, %v)", g, at), got, want)
	wantEqual(t, fmt.Sprintf("WrapPlace(%v, %v) succeeds", g, at), ok, true)
}

func TestWrapPlaceExample(t *testing.T) {
	g := impl.Grid{Wide: 4, High: 4}
	wantWrapped(t, g, complex(4.5, -0.25), complex(0.5, 3.75))
	cell, ok := impl.CellOf(g, complex(4.5, -0.25))
	wantEqual(t, "CellOf the example", cell, 12)
	wantEqual(t, "CellOf the example succeeds", ok, true)
	wantShares(t, g, complex(4.5, -0.25), []int64{12, 13, 0, 1}, []float32{0.125, 0.125, 0.375, 0.375})
}

// Each edge of each grid, its neighbours, and zeros of both signs.
func TestWrapPlaceAtEdges(t *testing.T) {
	for wide := int64(4); wide <= 16; wide++ {
		edge := float32(wide)
		cases := [][2]float32{
			{0, 0}, {minusZero(), 0}, {edge, 0}, {-edge, 0}, {2 * edge, 0}, {-3 * edge, 0}, {1000 * edge, 0}, {edge * 0x1p100, 0}, {-edge * 0x1p100, 0},
			{below(edge), below(edge)}, {above(edge), above(edge) - edge}, {above(-edge), edge + above(-edge)},
			{edge - 1, edge - 1}, {edge + 1, 1}, {-1, edge - 1}, {-edge - 1, edge - 1}, {edge / 2, edge / 2}, {-edge / 2, edge / 2}, {edge - 0.25, edge - 0.25}, {-0.25, edge - 0.25},
			{fromBits(1), fromBits(1)}, {-fromBits(1), 0}, {fromBits(0x007fffff), fromBits(0x007fffff)}, {-fromBits(0x007fffff), 0}, {fromBits(0x00800000), fromBits(0x00800000)}, {-fromBits(0x00800000), 0},
			// Between the greatest place and the edge, rounding leads to the nearer one, and to the edge from the middle.
			{below(edge) - edge, below(edge)}, {(below(edge) - edge) / 2, 0}, {above((below(edge) - edge) / 2), 0}, {below((below(edge) - edge) / 2), below(edge)},
		}
		for _, c := range cases {
			wantWrapped(t, impl.Grid{Wide: wide, High: 4}, complex(c[0], 1), complex(c[1], 1))
			wantWrapped(t, impl.Grid{Wide: 5, High: wide}, complex(2, c[0]), complex(2, c[1]))
		}
	}
}

func TestWrapPlaceAgainstOtherNumbers(t *testing.T) {
	s := newSource()
	for range 20000 {
		g := s.grid()
		for _, at := range []complex64{s.place(), complex(s.finiteBits(), s.finiteBits())} {
			wantWrapped(t, g, at, placeWanted(g, at))
		}
	}
	for _, g := range validGrids() {
		for _, at := range oddComplexes() {
			if impl.IsFiniteComplex(at) {
				wantWrapped(t, g, at, placeWanted(g, at))
			}
		}
	}
}

// A wrapped place is in the grid, and stays there.
func TestWrappedPlacesStay(t *testing.T) {
	s := newSource()
	for range 20000 {
		g, at := s.grid(), complex(s.finiteBits(), s.number())
		place, _ := impl.WrapPlace(g, at)
		if real(place) < 0 || imag(place) < 0 || real(place) >= float32(g.Wide) || imag(place) >= float32(g.High) {
			t.Errorf("WrapPlace(%v, %v): %v is outside", g, at, place)
		}
		wantWrapped(t, g, place, place)
	}
}

func TestCellOfAllCells(t *testing.T) {
	for _, g := range validGrids() {
		for y := range g.High {
			for x := range g.Wide {
				corner := complex(float32(x), float32(y))
				last := complex(below(float32(x+1)), below(float32(y+1)))
				for _, at := range []complex64{corner, last, corner + complex(0.5, 0.5), corner - complex(float32(g.Wide), float32(3*g.High))} {
					cell, ok := impl.CellOf(g, at)
					wantEqual(t, fmt.Sprintf("CellOf(%v, %v)", g, at), cell, x+g.Wide*y)
					wantEqual(t, fmt.Sprintf("CellOf(%v, %v) succeeds", g, at), ok, true)
				}
			}
		}
	}
}

func wantWay(t *testing.T, g impl.Grid, a, b, want complex64) {
	t.Helper()
	got, ok := impl.WayBetween(g, a, b)
	wantComplex(t, fmt.Sprintf("WayBetween(%v, %v, %v)", g, a, b), got, want)
	wantEqual(t, fmt.Sprintf("WayBetween(%v, %v, %v) succeeds", g, a, b), ok, true)
}

func TestWaysAgainstAnotherCalculation(t *testing.T) {
	for _, c := range wayCases() {
		wantWay(t, c.g, c.a, c.b, complex(fromBits(c.x), fromBits(c.y)))
	}
}

// Half of a side is gone as it is, a little more the other way.
func TestWayBetweenAtHalves(t *testing.T) {
	for wide := int64(4); wide <= 16; wide++ {
		edge, half := float32(wide), float32(wide)/2
		for _, c := range [][3]float32{
			{0, 0, 0}, {1, 1, 0}, {minusZero(), 0, 0}, {0, minusZero(), 0}, {edge, 0, 0}, {0, edge, 0}, {-edge, 3 * edge, 0}, {0, 1, 1}, {1, 0, -1}, {0, edge - 1, -1}, {edge - 1, 0, 1},
			{0, half, half}, {half, 0, -half}, {0, -half, half}, {-half, 0, -half}, {edge, half, half}, {half, edge, -half},
			{0, above(half), above(half) - edge}, {above(half), 0, edge - above(half)}, {0, below(half), below(half)}, {below(half), 0, -below(half)},
			{0, fromBits(1), fromBits(1)}, {fromBits(1), 0, -fromBits(1)}, {0, -fromBits(1), 0}, {fromBits(5), fromBits(3), -fromBits(2)}, {0, below(edge), below(edge) - edge}, {below(edge), 0, edge - below(edge)},
			{0.25, half + 0.5, half + 0.25 - edge}, {half + 0.5, 0.25, edge - half - 0.25}, {0.25, half + 0.25, half}, {half + 0.25, 0.25, -half},
			{0, edge * 0x1p100, 0}, {edge*100 + 1, 3 - edge*50, 2},
		} {
			wantWay(t, impl.Grid{Wide: wide, High: 4}, complex(c[0], 3.5), complex(c[1], 0.25), complex(c[2], 0.75))
			wantWay(t, impl.Grid{Wide: 5, High: wide}, complex(3.5, c[0]), complex(1, c[1]), complex(-2.5, c[2]))
		}
	}
}

func shortest(d float32, wide int64) float32 {
	if 2*float64(d) > float64(wide) {
		return plus(d, -float32(wide))
	}
	if -2*float64(d) > float64(wide) {
		return plus(d, float32(wide))
	}
	return d
}

func TestWayBetweenAgainstOtherNumbers(t *testing.T) {
	s := newSource()
	for range 10000 {
		g, a, b := s.grid(), s.place(), s.place()
		from, to := placeWanted(g, a), placeWanted(g, b)
		x, y := plus(real(to), -real(from)), plus(imag(to), -imag(from))
		wantWay(t, g, a, b, complex(shortest(x, g.Wide), shortest(y, g.High)))
	}
}

// On a corner, the whole share is there; in the middle of a cell, it is divided.
func TestSharesAtAllCorners(t *testing.T) {
	for _, g := range validGrids() {
		for y := range g.High {
			for x := range g.Wide {
				right, up := (x+1)%g.Wide, (y+1)%g.High
				corners := []int64{x + g.Wide*y, right + g.Wide*y, x + g.Wide*up, right + g.Wide*up}
				corner := complex(float32(x), float32(y))
				wantShares(t, g, corner, corners, []float32{1, 0, 0, 0})
				wantShares(t, g, corner+0.25, corners, []float32{0.75, 0.25, 0, 0})
				wantShares(t, g, corner+complex(0, 0.25), corners, []float32{0.75, 0, 0.25, 0})
				wantShares(t, g, corner+complex(0.25, 0.5), corners, []float32{0.375, 0.125, 0.375, 0.125})
				wantShares(t, g, corner+complex(float32(g.Wide)+0.5, 0.25), corners, []float32{0.375, 0.375, 0.125, 0.125})
			}
		}
	}
}

func TestSharesAgainstOtherNumbers(t *testing.T) {
	s := newSource()
	for range 10000 {
		g := s.grid()
		for _, at := range []complex64{s.place(), complex(s.number(), s.finiteBits())} {
			corners, shares := sharesWanted(g, at)
			wantShares(t, g, at, corners, shares)
		}
	}
}

func TestSharesAddUpToOne(t *testing.T) {
	s := newSource()
	for range 20000 {
		g, at := s.grid(), s.place()
		corners, shares, ok := impl.SharesAt(g, at)
		if !ok || len(corners) != 4 || len(shares) != 4 {
			t.Fatalf("SharesAt(%v, %v): got %v, %v, %v", g, at, corners, shares, ok)
		}
		sum := 0.0
		for i, share := range shares {
			sum += float64(share)
			if !(share >= 0 && share <= 1) || corners[i] < 0 || corners[i] >= g.Wide*g.High || slices.Contains(corners[:i], corners[i]) {
				t.Errorf("SharesAt(%v, %v): got %v, %v", g, at, corners, shares)
			}
		}
		if math.Abs(sum-1) > 0x1p-22 {
			t.Errorf("SharesAt(%v, %v): the shares %v add up to %v", g, at, shares, sum)
		}
	}
}

func TestCountCells(t *testing.T) {
	g := impl.Grid{Wide: 5, High: 4}
	var list []impl.Particle
	for _, at := range []complex64{0, complex(minusZero(), minusZero()), complex(4.5, 3.5), complex(-0.5, -0.5), complex(5, 4), complex(-fromBits(1), 1), complex(below(5), 1.5), complex(1, 0), complex(0.99, 0.99), complex(13.5, -6.5)} {
		list = append(list, particleAt(at, 1))
	}
	want := make([]int64, 20)
	want[0], want[1], want[5], want[8], want[9], want[19] = 4, 1, 1, 1, 1, 2
	counts, ok := impl.CountCells(g, list)
	if !slices.Equal(counts, want) || !ok {
		t.Errorf("CountCells: got %v, %v, want %v", counts, ok, want)
	}
	for _, g := range validGrids() {
		for _, n := range []int{0, 1, 64} {
			counts, ok := impl.CountCells(g, repeated(particleAt(complex(float32(g.Wide)-1, -1), 1), n))
			want := make([]int64, g.Wide*g.High)
			want[len(want)-1] = int64(n)
			if !slices.Equal(counts, want) || !ok {
				t.Errorf("CountCells(%v) of %d in the last cell: got %v, %v", g, n, counts, ok)
			}
		}
	}
}

func TestCountCellsAgainstCellOf(t *testing.T) {
	s := newSource()
	for range 500 {
		g := s.grid()
		list := s.particles(s.Intn(65))
		want := make([]int64, g.Wide*g.High)
		for _, p := range list {
			cell, _ := impl.CellOf(g, p.At)
			want[cell]++
		}
		counts, ok := impl.CountCells(g, list)
		if !slices.Equal(counts, want) || !ok {
			t.Errorf("CountCells(%v, %v): got %v, %v, want %v", g, list, counts, ok, want)
		}
	}
}
