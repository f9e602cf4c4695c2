package tests

import (
	"testing"

	"loop.example/g01226/impl"
)

// callsOfDesks are all functions of chapter 11 with a cloud, and with lines that
// make valid clouds of any, or that make nothing.
func callsOfDesks(t *testing.T, c impl.Cloud) []badCall {
	calls := []badCall{
		{shortened("CloudText of ", c), call1(impl.CloudText(c))},
		{shortened("RunDesk without lines, with ", c), call2(impl.RunDesk(c, ""))},
		{shortened("RunDesk with many lines and ", c), call2(impl.RunDesk(c, "grid 4 4\nshow\n\nfly\n"))},
		{shortened("RunJournal without lines, with ", c), call2(impl.RunJournal(c, ""))},
		{shortened("RunJournal without a journal, with ", c), call2(impl.RunJournal(c, "x"))},
		{shortened("RunJournal with many lines and ", c), call2(impl.RunJournal(c, journalText(t, "grid 4 4", "show", "", "fly")))},
	}
	for _, line := range []string{"", "fly", "show", "count", "grid 4 4", "grid 3 4", "cloud " + restText, "cloud none", "magnet 00000000", "back 00000000", "drop 0", "turn", "sort", "kinetic", "total", "momentum", "order", "cells", "streams 1 3f800000", "drift 00000000", "run 00000000 0 0"} {
		calls = append(calls,
			badCall{shortened("DeskCommand with ", line, c), call2(impl.DeskCommand(c, line))},
			badCall{shortened("RunDesk with ", line, c), call2(impl.RunDesk(c, line+"\n"))},
			badCall{shortened("RunJournal with ", line, c), call2(impl.RunJournal(c, journalText(t, line)))},
		)
	}
	return calls
}

func TestCloudsOfDesksMustBeValid(t *testing.T) {
	for _, c := range invalidClouds() {
		wantFailures(t, callsOfDesks(t, c))
	}
	for _, c := range deskClouds() {
		wantSuccesses(t, callsOfDesks(t, c))
	}
	for _, g := range allGrids() {
		for _, n := range []int{0, 1, 48} {
			wantSuccesses(t, callsOfDesks(t, ordinaryCloud(g, n)))
		}
	}
	for _, x := range edgeNumbers() {
		c := ordinaryCloud(impl.Grid{Wide: 5, High: 4}, 1)
		c.Magnet, c.Back = x, -x
		wantSuccesses(t, callsOfDesks(t, c))
	}
}

// A script or a journal that is too long, or wrong, fails for each cloud.
func TestScriptsOfDesksMustBeValid(t *testing.T) {
	long := string(make([]byte, 12001))
	for _, c := range deskClouds() {
		wantFailures(t, []badCall{
			{"RunDesk of a long text", call2(impl.RunDesk(c, long))},
			{"RunDesk of a long line", call2(impl.RunDesk(c, long[1:]+"\n"))},
			{"RunDesk without an end", call2(impl.RunDesk(c, "show"))},
			{"RunJournal of a long text", call2(impl.RunJournal(c, long))},
		})
		wantSuccesses(t, []badCall{
			{"RunDesk of the longest line", call2(impl.RunDesk(c, long[2:]+"\n"))},
			{"RunJournal of the longest text", call2(impl.RunJournal(c, long[1:]))},
		})
	}
}
