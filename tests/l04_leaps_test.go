package tests

import (
	"fmt"
	"math"
	"slices"
	"strings"
	"testing"

	"loop.example/g01226/impl"
)

// leapCase has the numbers of At, Speed, Charge, Mass, magnet and tick, and what
// a calculation outside of this project makes of them in patterned fields:
// DriftPlace, LeapOnce, BackOnce, StartBack, and five steps of RunLeaps.
type leapCase struct {
	g                  impl.Grid
	arguments, results string
}

func leapCases() []leapCase {
	return []leapCase{
		{impl.Grid{Wide: 4, High: 4}, "bf34652f,be5766c7,bfdae9a2,bfcfce30,bfe24df7,3e8aeb2c,bc87e4c6,bf84c7d2", "3f88e416,3fbca430;403012c0,407c0b40,c2917a71,c28b1a16;3fc2b6bc,4006c10f,c1119224,c1945391;bf34652f,be5766c7,42124c5f,41ea3502;400c95a0,3dc44000,c2a5dd28,c310097a"},
		{impl.Grid{Wide: 4, High: 4}, "c01a95af,bfc09d08,3f05c2cd,3fe53a1b,3caf3057,3ea35c54,3ce81974,bdd770aa", "3fc3cb8a,4013a2f1;3fc3b5c6,4013ab84,3f0760b4,3fe49722;3fd1ddba,402bc007,3f02d93d,3fe53749;c01a95af,bfc09d08,3f04f3e0,3fe58b9b;3fa88a4e,3fc9fca6,3ef58a68,3fd88031"},
		{impl.Grid{Wide: 16, High: 16}, "3fa6a63e,c1441d57,bfa377d5,3d11d39c,bf02aa38,3f863362,be617bf5,bc6afaca", "3fa8fe6d,406f8248;3fa906e9,406f843c,bfa5c784,3cdf41fa;3fa44e0f,406f9300,bfa11075,3d36d08d;3fa6a63e,c1441d57,bfa24fd4,3d22e200;3fb2d7bc,406f7b0f,bfae1c86,3a21765a"},
		{impl.Grid{Wide: 16, High: 16}, "bf144a7c,bf0ce50f,bd8dbd5b,4016b8e8,3d8f45d4,3efed1dc,bba006f2,3e6af3b5", "41767a4d,417fd6f7;4175dc08,417f6b87,be7351b3,400f67ef;4176fc63,416e8c67,3dc2871a,401dc41e;bf144a7c,bf0ce50f,3c75c99e,401a613b;41726070,400942e2,be4910ee,401fe465"},
		{impl.Grid{Wide: 5, High: 7}, "3e5f25e8,c0c38ce2,beab8a16,bf322f15,bf205c9d,3ff1dbba,3f958ea0,bfbeb8f9", "3f3795e8,3ff68c28;4093d91c,401c3836,c03d174e,bf855060;4096ffa1,40db4332,40427b63,405af4a8;3e5f25e8,c0c38ce2,3f52428e,3cb06c30;40248fa3,3f5ccf40,404f76ad,4083f608"},
		{impl.Grid{Wide: 5, High: 7}, "c0196ad6,3fa3a019,bddccb1a,3f63ad3e,3d49c565,406dbcbd,bf42f649,40fc7712", "3fe04b04,3fa5c1d8;3e523d20,3fc83560,be9b9757,3f6c6901;405d04d2,3fa17e5c,bed50147,3ec11e1c;c0196ad6,3fa3a019,bc32aacc,3f5dd0e2;3e8cc720,407aca33,bfbb7135,3eaf3c1a"},
		{impl.Grid{Wide: 16, High: 4}, "c05ea7c9,c0e9e62d,be9caaa7,bf140137,bdc40c05,3ef6ad78,be3dc71e,bfd11b06", "4150558c,3fd14be8;414978e0,401c9982,bd3204f4,c06181fe;41405690,406fc158,becfc712,bf92a5c6;c05ea7c9,c0e9e62d,bebdd126,3f6644b6;4053f648,3f219aa0,404bc92c,3fdd0c3c"},
		{impl.Grid{Wide: 16, High: 4}, "bc64efdd,bfd020df,bde37e24,40a378a6,3ecdb305,3e91c4a8,3ebb1bc1,3e6a5bbf", "417f5ea3,4062c300;417eb8ca,405fbf06,be937427,409ce221;3c3b95cb,3f9a3844,c032496a,4009ccf8;bc64efdd,bfd020df,bd02e608,40a701cd;3fdb01d0,3facf1ad,400e8d40,40ba99fd"},
		{impl.Grid{Wide: 4, High: 16}, "bfd58308,bf893cf3,c0f9d2df,3db68662,bddf4d8d,3e8fe63f,3de0e558,4067fc74", "40022160,4174039c;3fbca878,4058cd4c,c063064c,3f9d7baa;40285ba0,4169ad28,c0d5e1a9,408aab60;bfd58308,bf893cf3,c11fe4b4,be6e364e;4054d8d0,416aec40,41014e18,c07ce2b2"},
		{impl.Grid{Wide: 4, High: 16}, "4137e951,411eaf87,c0e45b0b,408f5829,3f38e8ae,3ed49aa0,be58d79b,3d098334", "4050500c,41211784;404fe208,41210498,c0eac171,408af0dc;406efa7c,411c478a,c0d73f50,409a3db0;4137e951,411eaf87,c0e122a4,40918431;4013172f,412b435c,c0de7f14,409fce01"},
		{impl.Grid{Wide: 13, High: 6}, "bf9e686d,bdf3313e,bd23c8fa,bfcb94e7,bdb28d67,3fff7636,c0f2f18c,bf15873a", "413c929d,3f4f6c40;4138a6f4,3f307dae,3ec25120,bfb11a67;413bd348,409e78ee,bf0213ba,bfdd0635;bf9e686d,bdf3313e,be86ca46,bfd4d61e;4115aff2,403c1c5d,3fae2c3f,bee15875"},
		{impl.Grid{Wide: 13, High: 6}, "c033f131,4169331b,bd0b18bd,bf44f062,3f7c77f6,3e60e01b,bdd406ed,3fffaa85", "4121eddf,3f84ea38;40d36758,3f809380,418ddb5c,42949f95;41241988,408391e0,41e5ab8e,3d39c080;c033f131,4169331b,c20173fa,c1d56fc6;40b201f0,401aaa40,425e454c,c2cacd4e"},
		{impl.Grid{Wide: 4, High: 4}, "40800000,00000000,3f000000,bf000000,3f800000,3f800000,3f800000,3f800000", "3f000000,40600000;40244440,40288888,c18b7778,c0abbbbc;40600000,3f000000,40877778,40ebbbbc;40800000,00000000,40c55556,40faaaaa;4005fa40,40677a64,41d1dcf8,c0c1c3a2"},
		{impl.Grid{Wide: 4, High: 4}, "be800000,40900000,00000000,00000000,3f800000,3f800000,00000000,3f000000", "40700000,3f000000;4012aaaa,405d5556,c03aaaac,c0055555;40700000,3f000000,403aaaac,40055555;be800000,40900000,3fbaaaac,3f855555;3f2d1690,406b45ad,c0ada244,bfa133ac"},
		{impl.Grid{Wide: 4, High: 4}, "407fffff,b089705f,3f800000,3f800000,bf800000,40000000,40000000,3f800000", "3f800000,3f800000;40488888,3fdddde0,4048888a,411bbbbc;403fffff,40400000,40555552,3f7ffffe;407fffff,b089705f,c03d7d7e,bfebebeb;4070c16c,3d91f7d0,411d3a61,bfce865b"},
		{impl.Grid{Wide: 5, High: 7}, "40a00000,40e00000,bdcccccd,bdcccccd,40000000,3f800000,c0000000,bf800000", "3dccccc0,3dccccc0;40569d08,40d0da76,41852c5f,c0d0da76;409ccccd,40dccccd,406c8b4c,c1605764;40a00000,40e00000,bf3bbbc0,c1644444;4021b320,40dc3ffc,c17e36f5,c11b49e2"},
		{impl.Grid{Wide: 5, High: 7}, "80000000,80000000,00000000,80000000,3f800000,3f800000,00000000,be800000", "00000000,00000000;40820000,40c55555,40700000,40555555;00000000,00000000,c0700000,c0555555;80000000,80000000,bff00000,bfd55555;408336bb,40108e40,c02d5bea,40917c4f"},
		{impl.Grid{Wide: 5, High: 7}, "00000001,80000001,00000001,80000001,00000000,3f800000,00000000,3f800000", "00000002,00000000;00000002,00000000,00000001,80000001;00000000,00000000,00000001,80000001;00000001,80000001,00000001,80000001;00000006,00000000,00000001,80000001"},
		{impl.Grid{Wide: 16, High: 16}, "41800000,c1800000,41800000,c1800000,00000000,3f800000,00000000,3f800000", "00000000,00000000;00000000,00000000,41800000,c1800000;00000000,00000000,41800000,c1800000;41800000,c1800000,41800000,c1800000;00000000,00000000,41800000,c1800000"},
		{impl.Grid{Wide: 16, High: 16}, "417fd70a,3c23d70a,3e99999a,be99999a,3f800000,3f800000,42200000,3f800000", "3e947ac0,417b5c29;416fb800,3f78efec,bf80f84c,3f766090;417b0a3d,3e9eb852,beb46fdc,3f02416a;417fd70a,3c23d70a,bf4cf8c4,3f91a54a;415daf0c,3fcb907d,c02b36c0,3fb0f94a"},
		{impl.Grid{Wide: 16, High: 16}, "447a1333,c4fa1666,40400000,40800000,3f800000,3f800000,c3960000,40000000", "4164ccc0,40e99a00;400d6400,40eb6200,c042e770,c07e37d6;40133300,40e99a00,c03cd7a8,c081b5c6;447a1333,c4fa1666,c03dc6bb,c08106c8;4006898c,40ecc8ae,c04d7a5e,c074eac2"},
		{impl.Grid{Wide: 4, High: 16}, "501502f9,d01502f9,3e99999a,be99999a,3f800000,40400000,3f800000,3dcccccd", "00000000,00000000;00000000,00000000,be5ea60e,bf3eee19;00000000,00000000,3f4d62a5,3e26b934;501502f9,d01502f9,3f0d973c,bd90bac3;4059c353,4175313f,c00d4a54,c0095881"},
		{impl.Grid{Wide: 4, High: 16}, "7149f2ca,7f61b1e6,3f800000,3f800000,00000000,3f800000,3f800000,3f800000", "00000000,00000000;00000000,00000000,3f800000,3f800000;00000000,00000000,3f800000,3f800000;7149f2ca,7f61b1e6,3f800000,3f800000;00000000,40800000,3f800000,3f800000"},
		{impl.Grid{Wide: 13, High: 6}, "3f800000,3f800000,7e967699,7e967699,3f800000,3f800000,00000000,40400000", "00000000,00000000;00000000,00000000,7e967699,7e967699;00000000,00000000,7e967699,7e967699;3f800000,3f800000,7e967699,7e967699;00000000,00000000,7e967699,7e967699"},
		{impl.Grid{Wide: 13, High: 6}, "7f61b1e6,3f800000,7f61b1e6,00000000,00000000,3f800000,00000000,3f800000", "no;no;00000000,3f800000,7f61b1e6,00000000;7f61b1e6,3f800000,7f61b1e6,00000000;no"},
		{impl.Grid{Wide: 13, High: 6}, "7f61b1e6,3f800000,ff61b1e6,00000000,00000000,3f800000,00000000,3f800000", "00000000,3f800000;00000000,3f800000,ff61b1e6,00000000;no;7f61b1e6,3f800000,ff61b1e6,00000000;00000000,3f800000,ff61b1e6,00000000"},
		{impl.Grid{Wide: 13, High: 6}, "7f61b1e6,3f800000,ff61b1e6,00000000,00000000,3f800000,00000000,bf800000", "no;no;00000000,3f800000,ff61b1e6,00000000;7f61b1e6,3f800000,ff61b1e6,00000000;no"},
		{impl.Grid{Wide: 5, High: 7}, "40200000,40600000,3f800000,3f800000,7f61b1e6,3f800000,00000000,40000000", "40900000,40b00000;no;no;no;no"},
		{impl.Grid{Wide: 5, High: 7}, "40200000,40600000,3f800000,3f800000,3f800000,3f800000,7f61b1e6,40000000", "40900000,40b00000;3f000000,3fbffffc,bf800000,bf800002;3f000000,3fc00000,bf800000,bf800000;40200000,40600000,bf800000,bf800000;3f000000,3fbffffc,bf800000,bf800002"},
		{impl.Grid{Wide: 5, High: 7}, "40200000,40600000,3f800000,3f800000,3f800000,3f800000,7f61b1e6,40400000", "3f000000,40d00000;no;no;40200000,40600000,bf800000,bf800000;no"},
		{impl.Grid{Wide: 5, High: 7}, "40200000,40600000,3f800000,3f800000,7e967699,3727c5ac,00000000,00000000", "40200000,40600000;no;no;no;no"},
		{impl.Grid{Wide: 5, High: 7}, "40200000,40600000,3e99999a,bf333333,3f800000,3f800000,00000000,00000000", "40200000,40600000;40200000,40600000,3e99999a,bf333333;40200000,40600000,3e99999a,bf333333;40200000,40600000,3e99999a,bf333333;40200000,40600000,3e99999a,bf333333"},
		{impl.Grid{Wide: 5, High: 7}, "40d00000,c0600000,3e99999a,bf333333,3f800000,3f800000,3e99999a,80000000", "3fc00000,40600000;3fc00000,40600000,3e99999a,bf333333;3fc00000,40600000,3e99999a,bf333333;40d00000,c0600000,3e99999a,bf333333;3fc00000,40600000,3e99999a,bf333333"},
		{impl.Grid{Wide: 5, High: 7}, "40200000,40600000,3e99999a,bf333333,3f800000,3f800000,3e99999a,00000001", "40200000,40600000;40200000,40600000,3e99999a,bf333333;40200000,40600000,3e99999a,bf333333;40200000,40600000,3e99999a,bf333333;40200000,40600000,3e99999a,bf333333"},
		{impl.Grid{Wide: 5, High: 7}, "40133333,4059999a,3e99999a,bf333333,bfa66666,3f333333,3f666666,be99999a", "400d70a4,40670a3e;401f06b0,40603dec,bf1dae88,beb11de4;4018f5c2,404c28f6,3f5e4fc3,bfa10bd2;40133333,4059999a,3f4d6123,bf33022d;40032ee9,3fe55586,3f148a65,3fe8baec"},
		{impl.Grid{Wide: 5, High: 7}, "40133333,4059999a,3e99999a,bf333333,80000000,3f333333,3f666666,3e99999a", "4018f5c2,404c28f6;4018f5c2,404c28f6,3e99999a,bf333333;400d70a4,40670a3e,3e99999a,bf333333;40133333,4059999a,3e99999a,bf333333;402ffffe,40166666,3e99999a,bf333333"},
		{impl.Grid{Wide: 5, High: 7}, "40133333,4059999a,3e99999a,bf333333,3fd9999a,3e99999a,80000000,3e99999a", "4018f5c2,404c28f6;3fe55324,405c432d,bfd8eadc,3e0dfe8c;400d70a4,40670a3e,4058e4a3,bee3858e;40133333,4059999a,3fa60f08,bf8f464f;403aade6,40a88a27,c0e7c304,40bd9250"},
	}
}

func firstOf(list []impl.Particle) impl.Particle {
	if len(list) == 0 {
		return impl.Particle{}
	}
	return list[0]
}

func wantLeaps(t *testing.T, g impl.Grid, p impl.Particle, x, y []float32, magnet, tick float32, want string) {
	t.Helper()
	word := func(after impl.Particle, ok bool) string { return wordOfMoved(p, after, ok) }
	first := func(list []impl.Particle, ok bool) string { return word(firstOf(list), ok) }
	got := []string{
		wordOfComplex(impl.DriftPlace(g, p.At, p.Speed, tick)), word(impl.LeapOnce(g, p, x, y, magnet, tick)), word(impl.BackOnce(g, p, x, y, magnet, tick)),
		first(impl.StartBack(g, []impl.Particle{p}, x, y, magnet, tick)), first(impl.RunLeaps(g, []impl.Particle{p}, x, y, magnet, tick, 5)),
	}
	wantEqual(t, fmt.Sprintf("the leaps of %v in %v with %v and %v", p, g, magnet, tick), strings.Join(got, ";"), want)
}

func TestLeapsAgainstAnotherCalculation(t *testing.T) {
	for _, c := range leapCases() {
		n, _ := impl.ReadNumbers(c.arguments)
		p := impl.Particle{At: complex(n[0], n[1]), Speed: complex(n[2], n[3]), Charge: n[4], Mass: n[5]}
		points := int(c.g.Wide * c.g.High)
		wantLeaps(t, c.g, p, patterned(points, 1), patterned(points, 2), n[6], n[7], c.results)
	}
}

// leapsWanted tells the same as wantLeaps, with the steps of the document.
func leapsWanted(g impl.Grid, p impl.Particle, x, y []float32, magnet, tick float32) string {
	drifted := driftWanted(g, p.At, p.Speed, tick)
	after, ok := p, true
	for i := 0; i < 5 && ok; i++ {
		after, ok = leapWanted(g, after, x, y, magnet, tick)
	}
	word := func(after impl.Particle, ok bool) string { return wordOfMoved(p, after, ok) }
	return strings.Join([]string{
		wordOf(finiteParts(drifted), whenFinite(partsOf(drifted)...)...), word(leapWanted(g, p, x, y, magnet, tick)),
		word(backWanted(g, p, x, y, magnet, tick)), word(startWanted(g, p, x, y, magnet, tick)), word(after, ok),
	}, ";")
}

func TestLeapsAgainstOtherNumbers(t *testing.T) {
	s := newSource()
	for i := range 6000 {
		a := s.leapArguments()
		if i%2 == 0 {
			a = s.gentle()
		}
		if i%5 == 0 {
			a.p.At, a.p.Speed, a.tick = complex(s.finiteBits(), s.number()), complex(s.finiteBits(), s.finiteBits()), s.finiteBits()
		}
		if i%7 == 0 {
			a.x, a.y = s.anyField(a.g), s.anyField(a.g)
		}
		wantLeaps(t, a.g, a.p, a.x, a.y, a.magnet, a.tick, leapsWanted(a.g, a.p, a.x, a.y, a.magnet, a.tick))
	}
}

func TestLeapsOfEdgeNumbers(t *testing.T) {
	g := impl.Grid{Wide: 4, High: 5}
	x, y := patterned(20, 1), patterned(20, 2)
	for _, magnet := range edgeNumbers() {
		for _, tick := range edgeNumbers() {
			for _, n := range edgeNumbers() {
				for _, p := range []impl.Particle{
					{At: complex(n, 1.5), Speed: complex(1, n), Charge: 1, Mass: 1},
					{At: complex(1.5, n), Speed: complex(n, -1), Charge: n, Mass: 2},
				} {
					wantLeaps(t, g, p, x, y, magnet, tick, leapsWanted(g, p, x, y, magnet, tick))
				}
			}
		}
	}
}

func TestDriftPlace(t *testing.T) {
	g, least, huge, inf := impl.Grid{Wide: 4, High: 5}, fromBits(1), float32(math.MaxFloat32), infinity()
	for _, c := range []struct {
		at, speed complex64
		tick      float32
		want      complex64
	}{
		{complex(1, 2), complex(0.5, -3), 0.5, complex(1.25, 0.5)},
		{complex(1, 2), complex(0.5, -3), -0.5, complex(0.75, 3.5)},
		{complex(1, 2), complex(0.5, -3), 0, complex(1, 2)},
		{complex(1, 2), complex(0.5, -3), minusZero(), complex(1, 2)},
		{complex(3.5, 4.5), complex(1, 1), 0.5, 0},
		{complex(3.5, 0.5), complex(1, -2), 1, complex(0.5, 3.5)},
		{complex(4, 5), 0, 1, 0},
		{complex(-0.25, 9), complex(1, 1), 0.25, complex(0, 4.25)},
		{complex(minusZero(), minusZero()), complex(minusZero(), 0), 1, 0},
		{complex(below(4), above(0)), complex(least, -least), 1, complex(below(4), 0)},
		{0, complex(-least, -0x1p-25), 1, complex(0, 0)},
		{0, complex(-0x1p-22, -0x1p-21), 1, complex(below(4), 5-0x1p-21)},
		{complex(1, 1), complex(1000, -1000), 1, complex(1, 1)},
		{complex(1, 1), complex(16777216, 0), 1, complex(0, 1)},
		// The product is rounded before it is added.
		{complex(-1, 0), complex(1+0x1p-12, 0), 1 + 0x1p-12, complex(0x1p-11, 0)},
		{complex(huge, 1), complex(-huge, 1), 1, complex(0, 2)},
		{complex(huge, 1), complex(huge, 1), 1, complex(inf, inf)},
		{complex(1, -huge), complex(1, -huge), 1, complex(inf, inf)},
		{complex(huge, 1), complex(0x1p103, 0), 1, complex(inf, inf)},
		{complex(huge, 1), complex(0x1p102, 0), 1, complex(0, 1)},
		{complex(1, 1), complex(huge, 1), 2, complex(inf, inf)},
		{complex(1, 1), complex(1, huge), -2, complex(inf, inf)},
		{complex(-huge, 1), complex(huge, 1), 2, complex(inf, inf)},
	} {
		got, ok := impl.DriftPlace(g, c.at, c.speed, c.tick)
		wantFiniteComplex(t, fmt.Sprintf("DriftPlace %v", c), got, ok, c.want)
	}
}

// Each place of each edge comes back into the grid.
func TestDriftPlaceAroundEdges(t *testing.T) {
	for _, g := range allGrids() {
		wide, high := float32(g.Wide), float32(g.High)
		for _, c := range []struct{ at, speed, want complex64 }{
			{complex(wide-0.5, high-0.5), complex(1, 1), 0},
			{complex(wide-0.5, high-0.5), complex(2, 2), complex(0.5, 0.5)},
			{0, complex(-1, -1), complex(wide-0.5, high-0.5)},
			{complex(wide, high), complex(0, 0), 0},
			{complex(-wide, 3*high), complex(1, 1), complex(0.5, 0.5)},
			{complex(1, 1), complex(2*wide, -4*high), complex(1, 1)},
		} {
			got, ok := impl.DriftPlace(g, c.at, c.speed, 0.5)
			wantFiniteComplex(t, inGrid("DriftPlace", g, c), got, ok, c.want)
		}
	}
}

// Without charge, a particle leaps straight on and around the edges.
func TestLeapsWithoutCharge(t *testing.T) {
	for _, g := range allGrids() {
		x, y := patterned(int(g.Wide*g.High), 1), patterned(int(g.Wide*g.High), 2)
		p := impl.Particle{At: complex(0.5, 0.5), Speed: complex(1, -1), Mass: 3}
		list, ok := impl.RunLeaps(g, []impl.Particle{p}, x, y, 5, 1, g.Wide)
		want := p
		want.At = complex(0.5, placeY(0.5-float32(g.Wide), float32(g.High)))
		wantParticles(t, inGrid("RunLeaps", g), list, []impl.Particle{want})
		wantEqual(t, inGrid("RunLeaps succeeds", g), ok, true)
	}
}

func placeY(y, high float32) float32 {
	for y < 0 {
		y += high
	}
	return y
}

// The field is that at the place before the leap, and the place moves by the
// new speed; on the way back, the place moves first.
func TestLeapsTakeTheFieldWhereTheyAre(t *testing.T) {
	g := impl.Grid{Wide: 5, High: 4}
	x, y := fieldOf(g, map[int64]float32{6: 2, 7: 16, 0: 32}), fieldOf(g, map[int64]float32{6: -4, 12: 8})
	p := pulled(1, complex(0, 1))
	after, ok := impl.LeapOnce(g, p, x, y, 0, 0.5)
	want := impl.Particle{At: complex(1.5, 0.5), Speed: complex(1, -1), Charge: 1, Mass: 1}
	wantParticles(t, "LeapOnce", []impl.Particle{after}, []impl.Particle{want})
	wantEqual(t, "LeapOnce succeeds", ok, true)
	before, ok := impl.BackOnce(g, after, x, y, 0, 0.5)
	wantParticles(t, "BackOnce", []impl.Particle{before}, []impl.Particle{p})
	wantEqual(t, "BackOnce succeeds", ok, true)
	list, ok := impl.StartBack(g, []impl.Particle{p}, x, y, 0, 0.5)
	want = impl.Particle{At: p.At, Speed: complex(-0.5, 2), Charge: 1, Mass: 1}
	wantParticles(t, "StartBack", list, []impl.Particle{want})
	wantEqual(t, "StartBack succeeds", ok, true)
}

// StartBack alone leaves places where they are, also beyond the edges.
func TestStartBackMovesNothing(t *testing.T) {
	g := impl.Grid{Wide: 4, High: 4}
	x, y, _ := impl.EvenField(g, complex(1, -2))
	for _, at := range []complex64{0, complex(minusZero(), -1), complex(4, 4), complex(-7.5, 1e10), complex(math.MaxFloat32, 3)} {
		p := impl.Particle{At: at, Charge: 1, Mass: 1}
		want := p
		want.Speed = complex(-0.5, 1)
		list, ok := impl.StartBack(g, []impl.Particle{p}, x, y, 0, 1)
		wantParticles(t, "StartBack", list, []impl.Particle{want})
		wantEqual(t, "StartBack succeeds", ok, true)
	}
}

func TestListsLeapAsTheirParticles(t *testing.T) {
	s := newSource()
	for _, n := range []int{0, 1, 2, 3, 10, 63, 64} {
		for range 20 {
			a := s.gentle()
			list, leapt, gone, started := s.particles(n), []impl.Particle{}, []impl.Particle{}, []impl.Particle{}
			for i := range list {
				list[i].Charge /= 1000
				one, _ := leapWanted(a.g, list[i], a.x, a.y, a.magnet, a.tick)
				two, _ := backWanted(a.g, list[i], a.x, a.y, a.magnet, a.tick)
				three, _ := startWanted(a.g, list[i], a.x, a.y, a.magnet, a.tick)
				leapt, gone, started = append(leapt, one), append(gone, two), append(started, three)
			}
			wantMoved(t, "LeapAll", leapt)(impl.LeapAll(a.g, list, a.x, a.y, a.magnet, a.tick))
			wantMoved(t, "RunLeaps once", leapt)(impl.RunLeaps(a.g, list, a.x, a.y, a.magnet, a.tick, 1))
			wantMoved(t, "RunLeaps never", list)(impl.RunLeaps(a.g, list, a.x, a.y, a.magnet, a.tick, 0))
			wantMoved(t, "BackAll", gone)(impl.BackAll(a.g, list, a.x, a.y, a.magnet, a.tick))
			wantMoved(t, "StartBack", started)(impl.StartBack(a.g, list, a.x, a.y, a.magnet, a.tick))
		}
	}
}

func wantMoved(t *testing.T, what string, want []impl.Particle) func(got []impl.Particle, ok bool) {
	return func(got []impl.Particle, ok bool) {
		t.Helper()
		wantParticles(t, what, got, want)
		wantEqual(t, what+" succeeds", ok, true)
	}
}

// RunLeaps makes LeapAll as often as it is told, up to its limit.
func TestRunLeapsStepByStep(t *testing.T) {
	s := newSource()
	for range 10 {
		a := s.gentle()
		list := []impl.Particle{a.p, s.gentle().p, s.gentle().p}
		now := list
		for steps := range int64(65) {
			wantMoved(t, fmt.Sprintf("RunLeaps, %d steps", steps), now)(impl.RunLeaps(a.g, list, a.x, a.y, a.magnet, a.tick, steps))
			now, _ = impl.LeapAll(a.g, now, a.x, a.y, a.magnet, a.tick)
		}
		for _, steps := range []int64{-1, 65, 66, 1 << 32, math.MaxInt64, math.MinInt64} {
			wantFailures(t, []badCall{
				{"RunLeaps beyond its limit", call1(impl.RunLeaps(a.g, list, a.x, a.y, a.magnet, a.tick, steps))},
				{"RunLeaps of none beyond its limit", call1(impl.RunLeaps(a.g, nil, a.x, a.y, a.magnet, a.tick, steps))},
				{"OrbitOf beyond its limit", call1(impl.OrbitOf(a.p, 1, a.magnet, a.tick, steps))},
			})
		}
	}
}

// Without steps, places stay where they are, and a pull that is not finite does
// not matter.
func TestNoLeapsChangeNothing(t *testing.T) {
	g := impl.Grid{Wide: 4, High: 4}
	x, y := patterned(16, 1), patterned(16, 2)
	list := []impl.Particle{{At: complex(-9, 4), Speed: complex(minusZero(), 1e38), Charge: 1e30, Mass: 1e-30}, ordinaryParticle()}
	wantMoved(t, "RunLeaps without steps", list)(impl.RunLeaps(g, list, x, y, 1e38, 1e38, 0))
	orbit, ok := impl.OrbitOf(list[0], 1e38, 1e38, 1e38, 0)
	wantEqual(t, "OrbitOf without steps", fmt.Sprint(orbit, ok), "[] true")
}

// One particle that can't leap makes all of them fail, wherever it is in the list.
func TestListsFailWithOneParticle(t *testing.T) {
	g := impl.Grid{Wide: 4, High: 4}
	x, y, _ := impl.EvenField(g, 1)
	for _, bad := range []impl.Particle{
		{At: 1, Speed: 1, Charge: 1e30, Mass: 1e-30},
		{At: 1, Speed: math.MaxFloat32, Charge: 1e38, Mass: 0.5},
		{At: math.MaxFloat32, Speed: math.MaxFloat32, Mass: 1},
		{At: -math.MaxFloat32, Speed: math.MaxFloat32, Mass: 1},
		{At: 1, Speed: complex(math.MaxFloat32, math.MaxFloat32), Charge: 1, Mass: 1},
	} {
		for i := range 5 {
			list := repeated(ordinaryParticle(), 5)
			list[i] = bad
			wantFailures(t, []badCall{
				{"LeapAll", call1(impl.LeapAll(g, list, x, y, 1, 2))},
				{"RunLeaps", call1(impl.RunLeaps(g, list, x, y, 1, 2, 3))},
				{"BackAll", call1(impl.BackAll(g, list, x, y, 1, -2))},
				{"LeapOnce", call1(impl.LeapOnce(g, bad, x, y, 1, 2))},
				{"BackOnce", call1(impl.BackOnce(g, bad, x, y, 1, -2))},
			})
			list[i] = impl.Particle{At: 1, Speed: 1, Charge: 1e30, Mass: 1e-30}
			wantFailures(t, []badCall{{"StartBack", call1(impl.StartBack(g, list, x, y, 0, 0))}})
		}
	}
}

// Numbers of fields that are not finite matter where a particle is, and only there.
func TestFieldsThatAreNotFinite(t *testing.T) {
	g := impl.Grid{Wide: 4, High: 4}
	zeros := fieldOf(g, nil)
	for _, bad := range badNumbers() {
		for i := range int64(16) {
			field := fieldOf(g, map[int64]float32{i: bad})
			for at := range int64(16) {
				place := complex(float32(at%4)+0.5, float32(at/4)+0.5)
				corners, _, _ := impl.SharesAt(g, place)
				for _, charge := range []float32{0, 1} {
					p := impl.Particle{At: place, Charge: charge, Mass: 1}
					wantLeapsOrNot(t, g, p, field, zeros, !slices.Contains(corners, i))
					wantLeapsOrNot(t, g, p, zeros, field, !slices.Contains(corners, i))
				}
			}
		}
	}
}

func wantLeapsOrNot(t *testing.T, g impl.Grid, p impl.Particle, x, y []float32, leaps bool) {
	t.Helper()
	after, one := impl.LeapOnce(g, p, x, y, 0, 1)
	before, two := impl.BackOnce(g, p, x, y, 0, 1)
	started, three := impl.StartBack(g, []impl.Particle{p}, x, y, 0, 1)
	wantEqual(t, "LeapOnce, BackOnce and StartBack succeed", fmt.Sprint(one, two, three), fmt.Sprint(leaps, leaps, leaps))
	if !leaps {
		wantFailures(t, []badCall{{"LeapOnce", results(after, one)}, {"BackOnce", results(before, two)}, {"StartBack", results(started, three)}})
	}
}

// Leaps back undo leaps, and leaps undo leaps back, however far the magnet turns.
func TestLeapsAreUndone(t *testing.T) {
	s := newSource()
	for range 20000 {
		a := s.gentle()
		what := fmt.Sprintf("a leap there and back, %v", a)
		after, one := impl.LeapOnce(a.g, a.p, a.x, a.y, a.magnet, a.tick)
		again, two := impl.BackOnce(a.g, after, a.x, a.y, a.magnet, a.tick)
		wantSamePlace(t, what, a.g, again, a.p, 2e-5)
		before, three := impl.BackOnce(a.g, a.p, a.x, a.y, a.magnet, a.tick)
		again, four := impl.LeapOnce(a.g, before, a.x, a.y, a.magnet, a.tick)
		wantSamePlace(t, what, a.g, again, a.p, 2e-5)
		wantEqual(t, "LeapOnce and BackOnce succeed", one && two && three && four, true)
	}
}

func wantSamePlace(t *testing.T, what string, g impl.Grid, got, want impl.Particle, most float64) {
	t.Helper()
	way, ok := impl.WayBetween(g, got.At, want.At)
	wantEqual(t, what+", WayBetween", ok, true)
	wantNearby(t, what+", the way left", way, 0, most)
	wantNearby(t, what+", the speed", got.Speed, want.Speed, most)
}

func TestManyLeapsAreUndone(t *testing.T) {
	s := newSource()
	for range 200 {
		a := s.gentle()
		list := []impl.Particle{a.p}
		for range 63 {
			list = append(list, s.gentle().p)
		}
		now, ok := impl.RunLeaps(a.g, list, a.x, a.y, a.magnet, a.tick/8, 10)
		wantEqual(t, "RunLeaps succeeds", ok, true)
		for range 10 {
			now, ok = impl.BackAll(a.g, now, a.x, a.y, a.magnet, a.tick/8)
			wantEqual(t, "BackAll succeeds", ok, true)
		}
		for i, p := range now {
			wantSamePlace(t, "ten leaps there and back", a.g, p, list[i], 1e-4)
		}
	}
}

// Behind half a tick back, a speed that swings meets its place again in between:
// the leaps of a spring go around with the same energy, nearly.
func TestStartBackPutsSpeedsBefore(t *testing.T) {
	g := impl.Grid{Wide: 16, High: 16}
	x, y, _ := impl.SpringField(g, 1)
	p := impl.Particle{At: complex(10, 8), Charge: 1, Mass: 1}
	list, ok := impl.StartBack(g, []impl.Particle{p}, x, y, 0, 0.125)
	wantEqual(t, "StartBack succeeds", ok, true)
	for k := range 51 {
		angle := float64(k) * 0.125
		want := complex(float32(8+2*math.Cos(angle)), 8)
		wantNearby(t, fmt.Sprintf("the swing after %d leaps", k), list[0].At, want, 0.01)
		wantNearby(t, fmt.Sprintf("the speed after %d leaps", k), list[0].Speed, complex(float32(-2*math.Sin(angle-0.0625)), 0), 0.01)
		list, _ = impl.LeapAll(g, list, x, y, 0, 0.125)
	}
}
