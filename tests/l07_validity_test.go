package tests

import (
	"fmt"
	"testing"

	"loop.example/g01226/impl"
)

// callsOfWorkers are all functions of chapter 7 that take a cloud.
func callsOfWorkers(c impl.Cloud, workers int64) []badCall {
	n := len(c.Particles)
	return []badCall{
		{"CellsOf", call1(impl.CellsOf(c))},
		{"OrderOf", call1(impl.OrderOf(c))},
		{"SortCloud", call1(impl.SortCloud(c))},
		{"PermuteCloud", call1(impl.PermuteCloud(c, turnedOrder(n, 1)))},
		{"CountsOf", call1(impl.CountsOf(c))},
		{"StartsOf", call1(impl.StartsOf(c))},
		{"InCell", call1(impl.InCell(c, 0))},
		{"FullestCell", call2(impl.FullestCell(c))},
		{"DepositRows", call1(impl.DepositRows(c, 0, 4))},
		{"DepositRows of no row", call1(impl.DepositRows(c, 0, 0))},
		{"KineticLanes", call1(impl.KineticLanes(c))},
		{"PushShared", call1(impl.PushShared(c, make([]complex64, n), 0.25, workers))},
		{"DepositShared", call1(impl.DepositShared(c, workers))},
		{"CloudChecks", call1(impl.CloudChecks(c))},
	}
}

func TestCloudsOfWorkersMustBeValid(t *testing.T) {
	for _, c := range invalidClouds() {
		for _, workers := range []int64{1, 4, 8} {
			wantFailures(t, callsOfWorkers(c, workers))
		}
	}
	for i := range 48 {
		for _, bad := range invalidParticles() {
			c := ordinaryCloud(impl.Grid{Wide: 4, High: 5}, 48)
			c.Particles[i] = bad
			wantFailures(t, callsOfWorkers(c, int64(i%8)+1))
		}
	}
}

// All functions succeed with what is valid, so that what fails in the other tests
// does so for one reason alone.
func TestWorkersTakeValidArguments(t *testing.T) {
	for _, g := range allGrids() {
		for _, n := range []int{0, 1, 48} {
			for workers := int64(1); workers <= 8; workers++ {
				wantSuccesses(t, callsOfWorkers(ordinaryCloud(g, n), workers))
				wantSuccesses(t, []badCall{{inGrid("RowsFor", g, workers), call1(impl.RowsFor(g, workers))}})
			}
		}
	}
	for _, x := range edgeNumbers() {
		c := ordinaryCloud(impl.Grid{Wide: 4, High: 5}, 9)
		c.Back = x
		wantSuccesses(t, callsOfWorkers(c, 3))
		for i := range c.Particles {
			c.Particles[i].At = complex(x, -x)
		}
		wantSuccesses(t, callsOfWorkers(c, 3))
	}
}

func TestNumbersOfWorkersHaveLimits(t *testing.T) {
	wantEqual(t, "MaxWorkers", impl.MaxWorkers, 8)
	for _, g := range validGrids() {
		for _, workers := range wrongWorkers() {
			calls := []badCall{{inGrid("RowsFor", g, workers), call1(impl.RowsFor(g, workers))}}
			for _, n := range []int{0, 1, 48} {
				c := ordinaryCloud(g, n)
				calls = append(calls, []badCall{
					{inGrid("DepositShared", g, n, workers), call1(impl.DepositShared(c, workers))},
					{inGrid("PushShared", g, n, workers), call1(impl.PushShared(c, make([]complex64, n), 0.25, workers))},
					{fmt.Sprintf("LaneShared of %d by %d", n, workers), call1(impl.LaneShared(make([]float32, n), workers))},
				}...)
			}
			wantFailures(t, calls)
		}
	}
}

func TestGridsOfRowsMustBeValid(t *testing.T) {
	for _, g := range invalidGrids() {
		for workers := int64(-1); workers <= 10; workers++ {
			wantFailures(t, []badCall{{inGrid("RowsFor", g, workers), call1(impl.RowsFor(g, workers))}})
		}
	}
}
