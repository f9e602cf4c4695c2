package tests

import (
	"math"
	"testing"

	"loop.example/g01226/impl"
)

// invalidShots are too many clouds, or have an invalid one first, last or alone.
func invalidShots() []impl.Shots {
	c := ordinaryCloud(impl.Grid{Wide: 5, High: 4}, 1)
	all := []impl.Shots{shotsOf(repeated(c, 9)...), shotsOf(repeated(c, 10)...), shotsOf(repeated(c, 1000)...), shotsOf(repeated(impl.Cloud{Grid: c.Grid}, 9)...)}
	for _, bad := range invalidClouds() {
		all = append(all, shotsOf(bad), shotsOf(bad, c), shotsOf(c, bad), shotsOf(append(repeated(c, 7), bad)...))
	}
	return all
}

// callsWithShots are all functions with shots that tell whether they fail, whose
// other arguments are valid.
func callsWithShots(s impl.Shots) []badCall {
	c := ordinaryCloud(impl.Grid{Wide: 5, High: 4}, 1)
	name := func(of string) string { return shortened(of, s) }
	return []badCall{
		{name("AddShot"), call1(impl.AddShot(s, c))},
		{name("SliceShots, none"), call1(impl.SliceShots(s, 0, 0))},
		{name("SliceShots, one"), call1(impl.SliceShots(s, 0, 1))},
		{name("SliceShots, the last one"), call1(impl.SliceShots(s, int64(len(s.Clouds)-1), 1))},
		{name("JoinShots, first"), call1(impl.JoinShots(s, impl.Shots{}))},
		{name("JoinShots, second"), call1(impl.JoinShots(impl.Shots{}, s))},
		{name("JoinShots, with another one"), call1(impl.JoinShots(shotsOf(c), s))},
		{name("ChangesOf"), call1(impl.ChangesOf(s))},
		{name("PathOf"), call1(impl.PathOf(s, 0))},
	}
}

func TestShotsMustBeValid(t *testing.T) {
	for _, s := range invalidShots() {
		wantFailures(t, callsWithShots(s))
	}
	c := ordinaryCloud(impl.Grid{Wide: 5, High: 4}, 1)
	for n := 1; n <= 7; n++ {
		wantSuccesses(t, callsWithShots(shotsOf(repeated(c, n)...)))
	}
}

// A slice without an invalid cloud is none of valid shots.
func TestSlicesOfInvalidShots(t *testing.T) {
	c := ordinaryCloud(impl.Grid{Wide: 5, High: 4}, 1)
	for _, bad := range invalidClouds() {
		for i := range 4 {
			s := shotsOf(repeated(c, 4)...)
			s.Clouds[i] = bad
			for from := range int64(5) {
				for count := range 5 - from {
					wantFailures(t, []badCall{{shortened("SliceShots", from, count, s), call1(impl.SliceShots(s, from, count))}})
				}
			}
		}
	}
}

// callsWithCloudOfShots are all functions of chapter 10 with a cloud.
func callsWithCloudOfShots(c impl.Cloud) []badCall {
	good := ordinaryCloud(c.Grid, len(c.Particles))
	name := func(of string) string { return shortened(of, c) }
	return []badCall{
		{name("AddShot to none"), call1(impl.AddShot(impl.Shots{}, c))},
		{name("AddShot to one"), call1(impl.AddShot(shotsOf(ordinaryCloud(impl.Grid{Wide: 5, High: 4}, 1)), c))},
		{name("ChangeOf, first"), call1(impl.ChangeOf(c, good))},
		{name("ChangeOf, second"), call1(impl.ChangeOf(good, c))},
		{name("ChangeOf, both"), call1(impl.ChangeOf(c, c))},
		{name("MapOf"), call1(impl.MapOf(c))},
	}
}

func TestCloudsOfShotsMustBeValid(t *testing.T) {
	for _, c := range invalidClouds() {
		wantFailures(t, callsWithCloudOfShots(c))
		text, ok := impl.StoreCloud(c)
		wantEqual(t, shortened("StoreCloud", c), text, "")
		wantEqual(t, shortened("StoreCloud succeeds for", c), ok, false)
	}
	for _, g := range allGrids() {
		for _, n := range []int{0, 1, 47, 48} {
			wantSuccesses(t, callsWithCloudOfShots(ordinaryCloud(g, n)))
		}
	}
	for _, x := range edgeNumbers() {
		for _, y := range edgeNumbers() {
			c := ordinaryCloud(impl.Grid{Wide: 5, High: 4}, 1)
			c.Magnet, c.Back = x, y
			wantSuccesses(t, callsWithCloudOfShots(c))
		}
	}
}

func TestListsOfShotsMustBeValid(t *testing.T) {
	for _, list := range invalidLists() {
		wantFailures(t, []badCall{
			{shortened("HistogramOf", list), call1(impl.HistogramOf(list, 0, 1, 1))},
			{shortened("MomentOf", list), call1(impl.MomentOf(list, 1))},
			{shortened("MomentOf, power 0", list), call1(impl.MomentOf(list, 0))},
		})
	}
	for n := 1; n <= 64; n++ {
		list := repeated(ordinaryParticle(), n)
		wantSuccesses(t, []badCall{
			{"HistogramOf", call1(impl.HistogramOf(list, 0, 1, 1))}, {"MomentOf", call1(impl.MomentOf(list, 1))}, {"MomentOf, power 6", call1(impl.MomentOf(list, 6))},
		})
	}
	for _, bins := range []int64{0, -1, 65, 66, math.MaxInt64, math.MinInt64, 1 << 32, 1<<32 + 1, -1 << 32} {
		wantFailures(t, []badCall{{"HistogramOf with far bins", call1(impl.HistogramOf(nil, 0, 1, bins))}})
	}
}
