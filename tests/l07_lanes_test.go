package tests

import (
	"fmt"
	"math"
	"slices"
	"testing"

	"loop.example/g01226/impl"
)

// wantLanes tells the sum of a list, also that of any number of workers.
func wantLanes(t *testing.T, what string, list []float32, want float32) {
	t.Helper()
	wantEqual(t, "LaneSum of "+what, wordOfNumber(impl.LaneSum(list)), wordOf(true, want))
	for workers := int64(1); workers <= 8; workers++ {
		got, ok := impl.LaneShared(list, workers)
		wantEqual(t, fmt.Sprintf("LaneShared of %s by %d", what, workers), wordOfNumber(got, ok), wordOf(true, want))
	}
}

func TestExampleOfLanes(t *testing.T) {
	wantEqual(t, "Lanes", impl.Lanes, 8)
	wantLanes(t, "1 to 9", []float32{1, 2, 3, 4, 5, 6, 7, 8, 9}, 45)
}

// withNumbers has zeros but for some numbers at their indices.
func withNumbers(n int, numbers map[int]float32) []float32 {
	list := make([]float32, n)
	for i, x := range numbers {
		list[i] = x
	}
	return list
}

// Numbers of one lane are added before those of others, in order. What meets a
// huge number alone is lost.
func TestSumsOfOneLane(t *testing.T) {
	const huge = 0x1p26
	for lane := range 8 {
		what := fmt.Sprintf("numbers of the lane %d", lane)
		wantLanes(t, what, withNumbers(24, map[int]float32{lane: huge, lane + 8: -huge, lane + 16: 1}), 1)
		wantLanes(t, what, withNumbers(24, map[int]float32{lane: 1, lane + 8: huge, lane + 16: -huge}), 0)
		wantLanes(t, what, withNumbers(lane+17, map[int]float32{lane: huge, lane + 8: 1, lane + 16: -huge}), 0)
		// The number is of another lane.
		other := (lane + 3) % 8
		wantLanes(t, what, withNumbers(24, map[int]float32{other: 1, lane: huge, lane + 16: -huge}), 1)
		wantLanes(t, what, withNumbers(24, map[int]float32{lane: huge, other + 8: 1, lane + 16: -huge}), 1)
		wantLanes(t, what, withNumbers(256, map[int]float32{lane: huge, other + 120: 1, lane + 248: -huge}), 1)
	}
}

// The sums 0 and 4 are added first, and so on; then 0 and 2, with what has been
// added to them, and 1 and 3.
func TestOrderOfLanes(t *testing.T) {
	const huge = 0x1p26
	for _, c := range []struct {
		first, second, number int
		want                  float32
	}{
		{0, 4, 1, 1}, {0, 4, 2, 1}, {0, 4, 5, 1}, {1, 5, 0, 1}, {1, 5, 4, 1}, {2, 6, 0, 1}, {3, 7, 1, 1}, {3, 7, 5, 1},
		{0, 2, 4, 0}, {0, 2, 6, 0}, {0, 2, 1, 1}, {0, 2, 7, 1}, {0, 6, 4, 0}, {4, 6, 2, 0}, {4, 6, 0, 0}, {4, 2, 0, 0}, {4, 2, 3, 1},
		{1, 3, 5, 0}, {1, 3, 7, 0}, {1, 3, 0, 1}, {1, 7, 5, 0}, {5, 7, 6, 1}, {5, 3, 2, 1}, {5, 3, 1, 0},
		{0, 1, 2, 0}, {0, 1, 4, 0}, {0, 1, 6, 0}, {0, 1, 3, 0}, {0, 7, 1, 0}, {2, 5, 7, 0}, {6, 3, 4, 0},
	} {
		for _, size := range []float32{huge, -huge} {
			list := withNumbers(8, map[int]float32{c.first: size, c.second: -size, c.number: 1})
			wantLanes(t, fmt.Sprint(list), list, c.want)
		}
	}
	// Halves that are lost one by one are not lost as sums of lanes, but for those
	// of the lanes 0 and 4.
	list := repeated(float32(0.5), 16)
	list[0] = 0x1p24
	wantLanes(t, "halves beside a huge number", list, 0x1p24+6)
}

// Lanes that are not full, or have no number at all.
func TestLanesThatAreNotFull(t *testing.T) {
	for _, list := range [][]float32{nil, {}} {
		wantLanes(t, "no numbers", list, 0)
	}
	for _, x := range []float32{1, -2.5, 0, fromBits(1), -fromBits(1), math.MaxFloat32, infinity(), -infinity(), notANumber()} {
		wantLanes(t, fmt.Sprint(x), []float32{x}, x)
	}
	for n := range 257 {
		ones, indices, zeros := repeated(float32(1), n), make([]float32, n), make([]float32, n)
		for i := range indices {
			indices[i] = float32(i)
		}
		wantLanes(t, fmt.Sprintf("%d ones", n), ones, float32(n))
		wantLanes(t, fmt.Sprintf("numbers up to %d", n-1), indices, float32(n*(n-1)/2))
		wantLanes(t, fmt.Sprintf("%d zeros", n), zeros, 0)
		wantLanes(t, fmt.Sprintf("%d zeros with a sign", n), repeated(minusZero(), n), 0)
	}
}

func TestLanesOfSpecialNumbers(t *testing.T) {
	const huge = math.MaxFloat32
	least := fromBits(1)
	for _, c := range []struct {
		list []float32
		want float32
	}{
		{[]float32{0, minusZero()}, 0},
		{[]float32{1, -1}, 0},
		{[]float32{-1, 0, 0, 0, 0, 0, 0, 0, 1}, 0},
		{[]float32{least, least, -least}, least},
		{[]float32{-least, 0, 0, 0, -least}, -fromBits(2)},
		{[]float32{huge, huge, -huge}, huge},
		{[]float32{huge, -huge, huge}, infinity()},
		{[]float32{huge, 0, 0, 0, -huge, huge}, huge},
		{[]float32{huge, 0, 0, 0, huge, 0, -huge}, infinity()},
		{[]float32{huge, 0, 0, 0, 0, 0, 0, 0, huge, 0, 0, 0, 0, 0, 0, 0, -huge}, infinity()},
		{[]float32{huge, 0, 0, 0, 0, 0, 0, 0, -huge, 0, 0, 0, 0, 0, 0, 0, huge}, huge},
		{[]float32{huge, 0x1p102}, huge},
		{[]float32{huge, 0x1p103}, infinity()},
		{[]float32{1, infinity(), 2, infinity()}, infinity()},
		{[]float32{1, -infinity(), 2, huge, huge}, -infinity()},
		{[]float32{infinity(), -infinity()}, notANumber()},
		{[]float32{infinity(), 1, 1, 1, 1, 1, 1, 1, -infinity()}, notANumber()},
		{[]float32{1, 1, 1, 1, 1, 1, 1, notANumber()}, notANumber()},
		{[]float32{1, 1, 1, 1, 1, 1, 1, 1, fromBits(0x7f800001)}, notANumber()},
		{[]float32{notANumber(), infinity()}, notANumber()},
	} {
		wantLanes(t, fmt.Sprint(c.list), c.list, c.want)
	}
	for i := range 256 {
		list := repeated(float32(1), 256)
		for _, x := range []float32{infinity(), -infinity(), notANumber()} {
			list[i] = x
			wantLanes(t, fmt.Sprintf("ones and %v at %d", x, i), list, x)
		}
	}
}

func TestLimitsOfLanes(t *testing.T) {
	for _, n := range []int{0, 1, 7, 8, 9, 255, 256} {
		list := repeated(float32(2), n)
		wantSuccesses(t, []badCall{{fmt.Sprintf("LaneSum of %d", n), call1(impl.LaneSum(list))}})
		for workers := int64(1); workers <= 8; workers++ {
			wantSuccesses(t, []badCall{{fmt.Sprintf("LaneShared of %d by %d", n, workers), call1(impl.LaneShared(list, workers))}})
		}
		for _, workers := range wrongWorkers() {
			wantFailures(t, []badCall{{fmt.Sprintf("LaneShared of %d by %d", n, workers), call1(impl.LaneShared(list, workers))}})
		}
	}
	for _, n := range []int{257, 258, 264, 512, 1000} {
		for _, x := range []float32{0, 2, notANumber()} {
			list := repeated(x, n)
			wantFailures(t, []badCall{{fmt.Sprintf("LaneSum of %d", n), call1(impl.LaneSum(list))}})
			for workers := range int64(10) {
				wantFailures(t, []badCall{{fmt.Sprintf("LaneShared of %d by %d", n, workers), call1(impl.LaneShared(list, workers))}})
			}
		}
	}
}

// Sums of numbers of many magnitudes, which are mostly others than from left to
// right.
func TestLanesAgainstOtherNumbers(t *testing.T) {
	s, odd, different := newSource(), oddNumbers(), 0
	for n := range 257 {
		for range 4 {
			list := s.numbers(n)
			want, _ := laneWanted(list)
			wantLanes(t, "some numbers", list, want)
			if left, _ := impl.SumNumbers(list); !sameBits(left, want) {
				different++
			}
		}
		list := slices.Repeat(odd, 10)[n%len(odd):][:n]
		want, _ := laneWanted(list)
		wantLanes(t, "odd numbers", list, want)
	}
	if different < 500 {
		t.Errorf("only %d of the sums differ from those from left to right", different)
	}
}

func TestKineticLanes(t *testing.T) {
	const huge = math.MaxFloat32
	c := cloudIn(massive(1, 1), massive(1, complex(0, -1)))
	wantEqual(t, "KineticLanes", wordOfNumber(impl.KineticLanes(c)), wordOf(true, 1))
	wantEqual(t, "KineticLanes of none", wordOfNumber(impl.KineticLanes(cloudIn())), wordOf(true, 0))
	for _, c := range []struct {
		list []impl.Particle
		want float32
	}{
		{[]impl.Particle{massive(1, 0)}, 0},
		{[]impl.Particle{massive(4, complex(3, -4))}, 50},
		{[]impl.Particle{massive(1, 0x1p13), massive(2, 1)}, 0x1p25},
		// The products go from left to right, and the power is narrowed.
		{[]impl.Particle{massive(fromBits(1), 0x1p60)}, 0},
		{[]impl.Particle{massive(huge, 1)}, huge / 2},
		{[]impl.Particle{massive(huge, 2)}, infinity()},
		{[]impl.Particle{massive(1, huge)}, infinity()},
		{[]impl.Particle{massive(0x1p-100, 0x1p70)}, infinity()},
		{[]impl.Particle{massive(3, 1+0x1p-23)}, times(1.5, 1+0x1p-22)},
		{repeated(massive(1, complex(1, 1)), 48), 48},
		// In lanes, what is lost from left to right is kept.
		{append([]impl.Particle{massive(0x1p25, 1)}, repeated(massive(1, 1), 16)...), 0x1p24 + 6},
	} {
		wantEqual(t, fmt.Sprintf("KineticLanes of %v", c.list), wordOfNumber(impl.KineticLanes(cloudIn(c.list...))), wordOf(true, c.want))
	}
}

// KineticLanes is LaneSum of what KineticOf tells of clouds of one particle.
func TestKineticLanesAreThoseOfParticles(t *testing.T) {
	s, different := newSource(), 0
	for range 2000 {
		c := s.anyCloud(s.Intn(49))
		var list []float32
		for _, p := range c.Particles {
			energy, _ := impl.KineticOf(cloudIn(p))
			list = append(list, energy)
		}
		want, _ := impl.LaneSum(list)
		wantEqual(t, "KineticLanes", wordOfNumber(impl.KineticLanes(c)), wordOf(true, want))
		if left, _ := impl.KineticOf(c); !sameBits(left, want) {
			different++
		}
	}
	if different < 300 {
		t.Errorf("only %d of the energies differ from those from left to right", different)
	}
}

// Many runs of the same call bring the same bits, whoever of the workers is first.
func TestLanesOfManyRuns(t *testing.T) {
	s := newSource()
	for _, n := range []int{9, 100, 255, 256} {
		list := s.numbers(n)
		want, _ := impl.LaneSum(list)
		for run := range 1000 {
			workers := int64(run%8) + 1
			got, ok := impl.LaneShared(list, workers)
			wantEqual(t, fmt.Sprintf("run %d of %d workers", run, workers), wordOfNumber(got, ok), wordOf(true, want))
		}
	}
}
