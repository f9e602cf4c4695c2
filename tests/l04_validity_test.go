package tests

import (
	"math"
	"testing"

	"loop.example/g01226/impl"
)

// pushArguments are such that all functions of chapter 4 succeed; the tests
// below make one of them wrong at a time.
type pushArguments struct {
	g            impl.Grid
	p            impl.Particle
	list         []impl.Particle
	x, y         []float32
	field        complex64
	magnet, tick float32
}

func goodArguments(g impl.Grid) pushArguments {
	points := int(g.Wide * g.High)
	p := ordinaryParticle()
	return pushArguments{g: g, p: p, list: []impl.Particle{p, p}, x: patterned(points, 1), y: patterned(points, 2), field: complex(1, -2), magnet: 0.5, tick: 0.25}
}

// callsOfLeaps are all functions that have a grid and fields.
func callsOfLeaps(a pushArguments) []badCall {
	return append(callsOfLeapingLists(a), []badCall{
		{inGrid("LeapOnce", a.g), call1(impl.LeapOnce(a.g, a.p, a.x, a.y, a.magnet, a.tick))},
		{inGrid("BackOnce", a.g), call1(impl.BackOnce(a.g, a.p, a.x, a.y, a.magnet, a.tick))},
	}...)
}

func callsOfLeapingLists(a pushArguments) []badCall {
	var calls []badCall
	for _, list := range [][]impl.Particle{a.list, a.list[:0]} {
		calls = append(calls, []badCall{
			{inGrid("LeapAll", a.g), call1(impl.LeapAll(a.g, list, a.x, a.y, a.magnet, a.tick))},
			{inGrid("RunLeaps", a.g), call1(impl.RunLeaps(a.g, list, a.x, a.y, a.magnet, a.tick, 2))},
			{inGrid("RunLeaps without steps", a.g), call1(impl.RunLeaps(a.g, list, a.x, a.y, a.magnet, a.tick, 0))},
			{inGrid("BackAll", a.g), call1(impl.BackAll(a.g, list, a.x, a.y, a.magnet, a.tick))},
			{inGrid("StartBack", a.g), call1(impl.StartBack(a.g, list, a.x, a.y, a.magnet, a.tick))},
		}...)
	}
	return calls
}

// callsOfGridsAlone have a grid and no fields as arguments.
func callsOfGridsAlone(a pushArguments) []badCall {
	return []badCall{
		{inGrid("DriftPlace", a.g), call1(impl.DriftPlace(a.g, a.p.At, a.p.Speed, a.tick))},
		{inGrid("WayOfLeap", a.g), call1(impl.WayOfLeap(a.g, a.p, a.list[0]))},
		{inGrid("SpeedBetween", a.g), call1(impl.SpeedBetween(a.g, a.p, a.list[0], a.tick))},
		{inGrid("EvenField", a.g), call2(impl.EvenField(a.g, a.field))},
		{inGrid("SpringField", a.g), call2(impl.SpringField(a.g, a.magnet))},
	}
}

func callsWithMagnet(a pushArguments) []badCall {
	return append(callsOfLeaps(a), []badCall{
		{"TurnOf", call1(impl.TurnOf(a.p, a.magnet, a.tick))},
		{"PushSpeed", call1(impl.PushSpeed(a.p, a.field, a.magnet, a.tick))},
		{"OrbitOf", call1(impl.OrbitOf(a.p, a.field, a.magnet, a.tick, 3))},
		{"OrbitOf without steps", call1(impl.OrbitOf(a.p, a.field, a.magnet, a.tick, 0))},
		{"RadiusOf", call1(impl.RadiusOf(a.p, a.magnet))},
		{"TurnsOf", call1(impl.TurnsOf(a.p, a.magnet, a.tick))},
		{"CrossSpeed", call1(impl.CrossSpeed(a.field, a.magnet))},
		{"OrbitCentre", call1(impl.OrbitCentre(a.p, a.magnet))},
		{"SpringField", call2(impl.SpringField(a.g, a.magnet))},
	}...)
}

func callsWithTick(a pushArguments) []badCall {
	return append(callsOfLeaps(a), []badCall{
		{"TurnOf", call1(impl.TurnOf(a.p, a.magnet, a.tick))},
		{"KickOf", call1(impl.KickOf(a.p, a.field, a.tick))},
		{"PushSpeed", call1(impl.PushSpeed(a.p, a.field, a.magnet, a.tick))},
		{"DriftPlace", call1(impl.DriftPlace(a.g, a.p.At, a.p.Speed, a.tick))},
		{"OrbitOf", call1(impl.OrbitOf(a.p, a.field, a.magnet, a.tick, 3))},
		{"OrbitOf without steps", call1(impl.OrbitOf(a.p, a.field, a.magnet, a.tick, 0))},
		{"TurnsOf", call1(impl.TurnsOf(a.p, a.magnet, a.tick))},
		{"SpeedBetween", call1(impl.SpeedBetween(a.g, a.p, a.list[0], a.tick))},
		{"LongestLeap", call1(impl.LongestLeap(a.list, a.tick))},
		{"LongestLeap of none", call1(impl.LongestLeap(nil, a.tick))},
	}...)
}

func callsWithField(a pushArguments) []badCall {
	return []badCall{
		{"KickOf", call1(impl.KickOf(a.p, a.field, a.tick))},
		{"PushSpeed", call1(impl.PushSpeed(a.p, a.field, a.magnet, a.tick))},
		{"OrbitOf", call1(impl.OrbitOf(a.p, a.field, a.magnet, a.tick, 3))},
		{"OrbitOf without steps", call1(impl.OrbitOf(a.p, a.field, a.magnet, a.tick, 0))},
		{"CrossSpeed", call1(impl.CrossSpeed(a.field, a.magnet))},
		{"EvenField", call2(impl.EvenField(a.g, a.field))},
	}
}

func callsWithParticle(a pushArguments) []badCall {
	good := ordinaryParticle()
	return []badCall{
		{"PullOf", call1(impl.PullOf(a.p))},
		{"TurnOf", call1(impl.TurnOf(a.p, a.magnet, a.tick))},
		{"KickOf", call1(impl.KickOf(a.p, a.field, a.tick))},
		{"PushSpeed", call1(impl.PushSpeed(a.p, a.field, a.magnet, a.tick))},
		{"LeapOnce", call1(impl.LeapOnce(a.g, a.p, a.x, a.y, a.magnet, a.tick))},
		{"BackOnce", call1(impl.BackOnce(a.g, a.p, a.x, a.y, a.magnet, a.tick))},
		{"OrbitOf", call1(impl.OrbitOf(a.p, a.field, a.magnet, a.tick, 3))},
		{"OrbitOf without steps", call1(impl.OrbitOf(a.p, a.field, a.magnet, a.tick, 0))},
		{"RadiusOf", call1(impl.RadiusOf(a.p, a.magnet))},
		{"TurnsOf", call1(impl.TurnsOf(a.p, a.magnet, a.tick))},
		{"OrbitCentre", call1(impl.OrbitCentre(a.p, a.magnet))},
		{"WayOfLeap, before", call1(impl.WayOfLeap(a.g, a.p, good))},
		{"WayOfLeap, after", call1(impl.WayOfLeap(a.g, good, a.p))},
		{"SpeedBetween, before", call1(impl.SpeedBetween(a.g, a.p, good, a.tick))},
		{"SpeedBetween, after", call1(impl.SpeedBetween(a.g, good, a.p, a.tick))},
	}
}

// callsWithList fail for a list that is not valid.
func callsWithList(a pushArguments) []badCall {
	return []badCall{
		{"LeapAll", call1(impl.LeapAll(a.g, a.list, a.x, a.y, a.magnet, a.tick))},
		{"RunLeaps", call1(impl.RunLeaps(a.g, a.list, a.x, a.y, a.magnet, a.tick, 2))},
		{"RunLeaps without steps", call1(impl.RunLeaps(a.g, a.list, a.x, a.y, a.magnet, a.tick, 0))},
		{"BackAll", call1(impl.BackAll(a.g, a.list, a.x, a.y, a.magnet, a.tick))},
		{"StartBack", call1(impl.StartBack(a.g, a.list, a.x, a.y, a.magnet, a.tick))},
		{"LongestLeap", call1(impl.LongestLeap(a.list, a.tick))},
	}
}

func wantSuccesses(t *testing.T, calls []badCall) {
	t.Helper()
	for _, c := range calls {
		wantEqual(t, c.what+" succeeds", c.results[len(c.results)-1].(bool), true)
	}
}

// In each grid, all functions succeed, so that what fails below does so for one
// reason alone.
func TestPushersTakeValidArguments(t *testing.T) {
	for _, g := range allGrids() {
		for _, n := range []float32{0.25, -0.25, 2, -2} {
			a := goodArguments(g)
			a.magnet, a.tick = n, n
			wantSuccesses(t, callsOfGridsAlone(a))
			wantSuccesses(t, callsWithMagnet(a))
			wantSuccesses(t, callsWithTick(a))
			wantSuccesses(t, callsWithField(a))
			wantSuccesses(t, callsWithParticle(a))
			a.list = repeated(a.p, 64)
			wantSuccesses(t, callsWithList(a))
			a.list = nil
			wantSuccesses(t, callsWithList(a))
		}
	}
}

func TestMagnetsAndTicksMustBeFinite(t *testing.T) {
	for _, g := range validGrids() {
		for _, bad := range badNumbers() {
			for _, speed := range []complex64{0, complex(0.5, -3)} {
				for _, charge := range []float32{0, -2} {
					a := goodArguments(g)
					a.p.Speed, a.p.Charge = speed, charge
					a.list = []impl.Particle{a.p}
					b := a
					a.magnet, b.tick = bad, bad
					wantFailures(t, callsWithMagnet(a))
					wantFailures(t, callsWithTick(b))
					b.magnet, a.tick = 0, 0
					wantFailures(t, callsWithMagnet(a))
					wantFailures(t, callsWithTick(b))
				}
			}
		}
	}
}

func TestFieldsOfPushesMustBeFinite(t *testing.T) {
	g := impl.Grid{Wide: 4, High: 5}
	for _, bad := range badPlaces() {
		for _, n := range []float32{0.25, 0, minusZero(), -1} {
			for _, charge := range []float32{0, -2} {
				a := goodArguments(g)
				a.field, a.tick, a.p.Charge = bad, n, charge
				wantFailures(t, callsWithField(a))
			}
		}
		for _, tick := range []float32{0, 1, -1} {
			wantFailures(t, []badCall{
				{"DriftPlace of no place", call1(impl.DriftPlace(g, bad, complex(1, 1), tick))},
				{"DriftPlace of no speed", call1(impl.DriftPlace(g, complex(1, 1), bad, tick))},
			})
		}
	}
	for _, bad := range badNumbers() {
		wantFailures(t, []badCall{{"SpringField", call2(impl.SpringField(g, bad))}})
	}
}

func TestParticlesOfPushesMustBeValid(t *testing.T) {
	a := goodArguments(impl.Grid{Wide: 4, High: 5})
	for _, p := range invalidParticles() {
		a.p = p
		wantFailures(t, callsWithParticle(a))
	}
	for _, list := range invalidLists() {
		a.list = list
		wantFailures(t, callsWithList(a))
	}
}

func TestGridsOfPushesMustBeValid(t *testing.T) {
	for _, g := range invalidGrids() {
		for _, n := range []int{0, 9, 12, 16, 64, 68, 144} {
			a := goodArguments(impl.Grid{Wide: 4, High: 4})
			a.g, a.x, a.y = g, repeated(float32(1), n), repeated(float32(1), n)
			wantFailures(t, callsOfLeaps(a))
			wantFailures(t, callsOfGridsAlone(a))
		}
	}
}

func TestFieldsOfLeapsMustBeOfTheGrid(t *testing.T) {
	for _, g := range validGrids() {
		good := goodArguments(g)
		points := len(good.x)
		for _, n := range []int{0, 1, points - 1, points + 1, points / 4, 2 * points, 4 * points} {
			one, two, both := good, good, good
			one.x, two.y = repeated(float32(1), n), repeated(float32(1), n)
			both.x, both.y = one.x, two.y
			wantFailures(t, callsOfLeaps(one))
			wantFailures(t, callsOfLeaps(two))
			wantFailures(t, callsOfLeaps(both))
		}
		none := good
		none.x, none.y = nil, nil
		wantFailures(t, callsOfLeaps(none))
	}
}

func TestStepsOfOrbitsHaveALimit(t *testing.T) {
	p := ordinaryParticle()
	for _, steps := range []int64{0, 1, 2, 63, 64} {
		got, ok := impl.OrbitOf(p, 1, 2, 0.125, steps)
		wantEqual(t, "how many places OrbitOf returns", int64(len(got)), steps)
		wantEqual(t, "OrbitOf succeeds", ok, true)
	}
	for _, steps := range []int64{-1, -64, 65, 66, 1 << 40, math.MaxInt64, math.MinInt64} {
		wantFailures(t, []badCall{{"OrbitOf beyond its limit", call1(impl.OrbitOf(p, 1, 2, 0.125, steps))}})
	}
}
