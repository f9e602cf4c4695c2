package tests

import (
	"fmt"
	"math"
	"slices"
	"testing"

	"loop.example/g01226/impl"
)

func TestLimitsOfShots(t *testing.T) {
	wantEqual(t, "MaxShots", impl.MaxShots, 8)
}

// A calculation outside of this project has told the words below. The text is
// that of the shots without some bytes at its end, or, for a negative cut, that
// of the first cloud.
func TestPatternedShotsAgainstAnotherCalculation(t *testing.T) {
	for _, c := range []struct {
		g                  impl.Grid
		counts             []int
		pattern            int
		others             []int
		cut                int
		low, high          float32
		from, count, index int64
		bins, n            int64
		want               string
	}{
		{impl.Grid{Wide: 4, High: 4}, nil, 1, nil, 0, -1, 1, 0, 0, 0, 4, 2, "true true;no;;;no;no;no;no;0#0;;;0;0,0,0,0;no;no;;;no"},
		{impl.Grid{Wide: 4, High: 4}, []int{0}, 2, []int{0}, 0, -1, 1, 0, 1, 0, 4, 2, "true false;4x4:bfd55555,bf555555/4x4:bfd55555,bf555555;4x4:bfd55555,bf555555;4x4:bfd55555,bf555555/4x4:bfdaaaab,bf600000;no;no;15#10516;no;17#18558;4x4:bfd55555,bf555555;4x4:bfd55555,bf555555;17;0,0,0,0;no;00000000;;no;0,0,0,0,0,0,0,0,0,0,0,0,0,0,0,0"},
		{impl.Grid{Wide: 5, High: 4}, []int{1}, 3, []int{2, 0}, 0, -1, 1, 1, 0, 0, 1, 0, "true false;5x4:#36285,3f355555/5x4:#36285,3f355555;;5x4:#36285,3f355555/5x4:#2746,3f200000/5x4:bfa55555,beeaaaab;24#46764;no;39#40992;no;41#23625;5x4:#36285,3f355555;5x4:#36285,3f355555;41;0;3f800000;00000000;;404aaaab,c0b55555;0,0,0,0,0,0,0,0,0,0,0,0,0,1,0,0,0,0,0,0"},
		{impl.Grid{Wide: 4, High: 7}, []int{2, 2}, 4, nil, 1, -2, 2, 1, 1, 1, 5, 1, "true false;4x7:#29871,3f600000/4x7:#3833,3f8aaaaa/4x7:#29871,3f600000;4x7:#3833,3f8aaaaa;4x7:#29871,3f600000/4x7:#3833,3f8aaaaa;24#54045;no;63#26472;no;130#16739;no;4x7:#29871,3f600000;65;0,0,1,0,1;3f055555;400aaaab;400aaaab;40355555,41000000,406aaaab,c1000000;0,0,0,0,0,0,1,0,1,0,0,0,0,0,0,0,0,0,0,0,0,0,0,0,0,0,0,0"},
		{impl.Grid{Wide: 16, High: 16}, []int{3, 3, 3}, 5, []int{1, 1, 1, 1, 1}, 24, -2, 2, 0, 3, 2, 7, 3, "true false;#43120,4;#37098,3;#18937,8;24#26377;no;87#52969;no;267#2923;no;16x16:#32401,3fb55556/16x16:#4342,3fd00000;178;1,0,0,1,0,0,1;bf5ff35a;4016d977;3f96d979,3f96d97a;40155555,40955555,404aaaab,40b00000,40800000,40caaaab;#9260,0"},
		{impl.Grid{Wide: 13, High: 6}, []int{7, 7, 7, 7}, 6, []int{7, 7, 7, 7}, 186, -2.2, 1.9, 1, 2, 6, 16, 4, "true false;#52775,5;13x6:#55678,401d5556/13x6:#1869,40100000;#7651,8;24#19435;no;183#12273;no;740#31257;no;13x6:#10377,4022aaab/13x6:#55678,401d5556;370;0,0,1,0,1,1,0,0,1,0,0,1,0,1,0,1;404c5f9c;40624632;3f96d977,3f96d976,3f96d97a;#49272,40d00000;#46956,0"},
		{impl.Grid{Wide: 6, High: 13}, []int{9, 9}, 7, []int{0, 0, 0, 0, 0, 0}, -1, -1.5, 0.25, 1, 2, 8, 33, 5, "true false;#25666,3;no;#3901,8;24#28071;no;231#37164;6x13:#41445,40100000;466#16297;no;;0;#14358,0;40b467f5;3f96d977;3f96d977;c0f00000,c0aaaaab,c0d55555,c0900000;#43547,0"},
		{impl.Grid{Wide: 9, High: 9}, []int{48, 48, 48, 48, 48, 48, 48, 48}, 8, nil, 0, -2, 2, 3, 4, 47, 64, 6, "true false;no;#49727,4;#29890,8;24#38804;no;1167#24064;no;9352#56133;#29890,8;#29890,8;9352;#7982,0;416e24e2;408f4e97;#47196,403504f3;#29908,40d00000;#8427,0"},
		{impl.Grid{Wide: 9, High: 9}, []int{48, 48, 48, 48, 48, 48, 48, 48}, 9, []int{1}, 3508, -2, 2, 8, 0, 3, 64, 6, "true false;no;;no;24#35008;no;1167#6856;no;9352#42653;no;#43686,4;4676;#36422,1;4173cc5e;408f4e97;#23631,400aaaab;#3928,c0eaaaab;#59362,1"},
		{impl.Grid{Wide: 16, High: 4}, []int{20, 21, 20}, 10, []int{1, 0}, 17, -1.9, 2.05, 2, 2, 19, 13, 2, "true false;#45246,4;no;#21854,5;24#59440;no;495#8625;no;1515#20602;no;16x4:#25146,3fe00000/16x4:#1961,3fc55555;1018;4,1,0,2,0,2,2,3,0,2,0,2,0;3fcb3333;4016d979;no;c1000000,c0555555,c0e55555,c0200000,c0caaaab,bfd55555;#24160,1"},
		{impl.Grid{Wide: 4, High: 16}, []int{30, 30, 30, 29}, 11, []int{2}, 731, 0, 1, 0, 4, 28, 10, 3, "true false;#6980,5;#33560,4;#9354,5;24#3826;no;735#35994;no;2924#51421;no;4x16:#56555,3f600000/4x16:#10454,3f2aaaab;1474;0,0,1,2,0,0,2,1,1,0;bf4231f0;no;no;#3748,c04aaaab;#241,0"},
		{impl.Grid{Wide: 11, High: 8}, []int{1, 2, 3, 4, 5, 6, 7, 8}, 12, nil, 0, -0.7, 0.1, 7, 1, 0, 3, 1, "true false;no;11x8:#15857,3f955556;#7405,8;24#23653;no;39#49318;no;1000#44295;#7405,8;#7405,8;1000;0,0,0;bf955555;no;no;#15729,40f55555;#29249,0"},
		{impl.Grid{Wide: 7, High: 7}, []int{5, 5, 5, 5, 5, 5, 5, 5, 5}, 13, nil, 0, -2, 2, 0, 9, 4, 8, 2, "false false;no;no;no;24#62213;no;135#47125;no;no;no;#51984,8;1096;1,0,1,1,1,0,0,1;3fbf7777;408f4e96;no;no;#9340,0"},
		{impl.Grid{Wide: 10, High: 12}, []int{40, 40, 40, 40, 40, 40, 40}, 14, []int{40}, 978, -0.001, 1, 6, 1, 39, 20, 5, "true false;#3575,8;10x12:#12935,3f4aaaaa;#21884,8;24#43263;no;975#3488;no;6839#47845;no;#1316,5;4885;2,0,1,0,1,0,0,0,0,0,0,2,0,0,0,0,1,1,1,0;3f6e170e;40e24631;40b504f5,4082bf90,4082bf90,4082bf90,4082bf8e,4082bf90;#15755,bfd55555;#58014,0"},
	} {
		var s, other impl.Shots
		var parts []string
		for i, n := range c.counts {
			s.Clouds = append(s.Clouds, patternedCloud(c.g, n, c.pattern+i))
			parts = append(parts, bytesOfCloud(s.Clouds[i]))
		}
		for i, n := range c.others {
			other.Clouds = append(other.Clouds, patternedCloud(c.g, n, c.pattern+20+i))
		}
		text := framed(parts...)
		text = text[:len(text)-max(c.cut, 0)]
		if c.cut < 0 {
			text = parts[0]
		}
		wantShotWords(t, shotsWith(s, other, text, c.low, c.high, c.from, c.count, c.index, c.bins, c.n), c.want)
	}
}

// The document's own way, made another way, gives the same for shots of all kinds.
func TestShotsAgainstOtherWays(t *testing.T) {
	s := newSource()
	for range 1200 {
		a := s.anyShots()
		wantShotWords(t, a, shotsWanted().wordsOf(a))
	}
}

// The examples of the document.
func TestExamplesOfShots(t *testing.T) {
	c := impl.Cloud{Grid: impl.Grid{Wide: 4, High: 4}}
	wantEqual(t, "bytes of a cloud without particles", len(storedCloud(t, c)), 15)
	wantEqual(t, "bytes of the shots with it alone", len(storedShots(t, shotsOf(c))), 17)
	moment, ok := impl.MomentOf([]impl.Particle{{Speed: 1, Mass: 1}, {Speed: 3, Mass: 1}}, 2)
	wantEqual(t, "the moment of 1 and 3", moment, 5)
	wantEqual(t, "MomentOf succeeds", ok, true)
}

func TestValidShots(t *testing.T) {
	c := ordinaryCloud(impl.Grid{Wide: 4, High: 16}, 2)
	wantEqual(t, "ValidShots of nil", impl.ValidShots(impl.Shots{}), true)
	wantEqual(t, "ValidShots of none", impl.ValidShots(impl.Shots{Clouds: []impl.Cloud{}}), true)
	for n := range 20 {
		wantEqual(t, fmt.Sprintf("ValidShots of %d", n), impl.ValidShots(shotsOf(repeated(c, n)...)), n <= 8)
	}
	wantEqual(t, "ValidShots of full clouds", impl.ValidShots(shotsOf(repeated(ordinaryCloud(c.Grid, 48), 8)...)), true)
	for _, g := range allGrids() {
		wantEqual(t, inGrid("ValidShots", g), impl.ValidShots(shotsOf(c, impl.Cloud{Grid: g})), true)
	}
	for _, bad := range invalidClouds() {
		for i := range 8 {
			s := shotsOf(repeated(c, 8)...)
			s.Clouds[i] = bad
			wantEqual(t, shortened("ValidShots with an invalid one at ", i, bad), impl.ValidShots(s), false)
		}
		wantEqual(t, shortened("ValidShots of an invalid one", bad), impl.ValidShots(shotsOf(bad)), false)
	}
}

// Each number of each cloud tells shots apart.
func TestSameShotsTellsEachNumber(t *testing.T) {
	g := impl.Grid{Wide: 5, High: 4}
	numbers := []float32{1, minusZero(), 0, fromBits(1), -fromBits(1), 2, math.MaxFloat32, above(1)}
	for i := range 24 {
		for _, x := range numbers {
			for _, y := range numbers {
				if k := i % 8; k == 7 && !(x > 0 && y > 0) {
					continue
				}
				a, b := repeated(float32(1), 24), repeated(float32(1), 24)
				a[i], b[i] = x, y
				one := shotsOf(cloudAs(g, a[:8]), cloudAs(g, a[8:16]), cloudAs(g, a[16:]))
				two := shotsOf(cloudAs(g, b[:8]), cloudAs(g, b[8:16]), cloudAs(g, b[16:]))
				wantEqual(t, fmt.Sprintf("SameShots with %v and %v as number %d", x, y, i), impl.SameShots(one, two), sameBits(x, y))
			}
		}
	}
}

func TestSameShotsTellsGridsAndLists(t *testing.T) {
	g := impl.Grid{Wide: 5, High: 4}
	a, b, wide := ordinaryCloud(g, 2), ordinaryCloud(g, 3), ordinaryCloud(impl.Grid{Wide: 6, High: 4}, 2)
	all := []impl.Shots{{}, shotsOf(a), shotsOf(b), shotsOf(wide), shotsOf(a, a), shotsOf(a, b), shotsOf(b, a), shotsOf(a, wide), shotsOf(repeated(a, 8)...), shotsOf(append(repeated(a, 7), b)...)}
	for i, one := range all {
		for k, other := range all {
			wantEqual(t, fmt.Sprint("SameShots of ", i, k), impl.SameShots(one, other), i == k)
		}
	}
	wantEqual(t, "SameShots of nil and none", impl.SameShots(impl.Shots{}, impl.Shots{Clouds: []impl.Cloud{}}), true)
	none, empty := ordinaryCloud(g, 0), withList(ordinaryCloud(g, 0), nil)
	wantEqual(t, "SameShots of clouds with nil and no particles", impl.SameShots(shotsOf(none), shotsOf(empty)), true)
}

// Shots that are not valid are the same as none, not even as themselves.
func TestSameShotsNeedsValidShots(t *testing.T) {
	c := ordinaryCloud(impl.Grid{Wide: 5, High: 4}, 1)
	for _, s := range invalidShots() {
		what := shortened("SameShots", s)
		wantEqual(t, what+" with itself", impl.SameShots(s, s), false)
		wantEqual(t, what+" with others", impl.SameShots(s, shotsOf(c)) || impl.SameShots(shotsOf(c), s) || impl.SameShots(s, impl.Shots{}), false)
	}
}

func TestAddShot(t *testing.T) {
	s, want := newSource(), impl.Shots{}
	got := impl.Shots{}
	for n := range 9 {
		c := s.anyCloud(n * 6)
		added, ok := impl.AddShot(got, c)
		want.Clouds = append(want.Clouds, c)
		if n == 8 {
			wantFailures(t, []badCall{{"AddShot to eight", call1(added, ok)}})
			break
		}
		wantShots(t, fmt.Sprintf("AddShot to %d", n), added, ok, want)
		got = added
	}
}

func TestSliceShots(t *testing.T) {
	s := newSource()
	for n := range 9 {
		shots := s.shots(repeated(2, n)...)
		for from := int64(-2); from <= 10; from++ {
			for count := int64(-2); count <= 10; count++ {
				got, ok := impl.SliceShots(shots, from, count)
				what := fmt.Sprintf("SliceShots of %d from %d, %d of them", n, from, count)
				if from < 0 || count < 0 || from+count > int64(n) {
					wantFailures(t, []badCall{{what, call1(got, ok)}})
					continue
				}
				wantShots(t, what, got, ok, shotsOf(shots.Clouds[from:from+count]...))
			}
		}
		for _, far := range []int64{math.MaxInt64, math.MinInt64, math.MaxInt64 - 1, 1 << 32, 1 << 62, -1 << 62, 1<<32 + 1} {
			for near := int64(-1); near <= 9; near++ {
				wantFailures(t, []badCall{
					{fmt.Sprint("SliceShots", n, far, near), call1(impl.SliceShots(shots, far, near))},
					{fmt.Sprint("SliceShots", n, near, far), call1(impl.SliceShots(shots, near, far))},
					{fmt.Sprint("SliceShots", n, far, -far), call1(impl.SliceShots(shots, far, -far))},
					{fmt.Sprint("SliceShots", n, far, near-far), call1(impl.SliceShots(shots, far, near-far))},
				})
			}
		}
	}
}

func TestJoinShots(t *testing.T) {
	s := newSource()
	for n := range 10 {
		for m := range 10 {
			a, b := s.shots(repeated(1, n)...), s.shots(repeated(2, m)...)
			got, ok := impl.JoinShots(a, b)
			what := fmt.Sprintf("JoinShots of %d and %d", n, m)
			if n+m > 8 {
				wantFailures(t, []badCall{{what, call1(got, ok)}})
				continue
			}
			wantShots(t, what, got, ok, shotsOf(slices.Concat(a.Clouds, b.Clouds)...))
		}
	}
	one := s.shots(3)
	two, ok := impl.JoinShots(one, one)
	wantShots(t, "JoinShots of shots and themselves", two, ok, shotsOf(one.Clouds[0], one.Clouds[0]))
}

// What has been cut apart is joined again.
func TestSlicesAreJoined(t *testing.T) {
	s := newSource()
	shots := s.shots(0, 1, 48, 3, 5, 8, 13, 21)
	for from := range int64(9) {
		left, one := impl.SliceShots(shots, 0, from)
		right, two := impl.SliceShots(shots, from, 8-from)
		both, three := impl.JoinShots(left, right)
		wantShots(t, fmt.Sprintf("shots cut at %d", from), both, one && two && three, shots)
		wantEqual(t, "SameShots of them", impl.SameShots(both, shots), true)
	}
}
