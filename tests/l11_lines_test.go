package tests

import (
	"fmt"
	"math"
	"slices"
	"strings"
	"testing"

	"loop.example/g01226/impl"
)

// restText is a cloud of two particles with the kinetic energy 1 and the
// momentum 1 - 1 i.
const (
	restHead = "4,4;00000000,00000000;"
	restOne  = "3f8000003f800000,3f80000000000000:40000000,3f800000"
	restTwo  = "4040000040000000,00000000bf800000:bf800000,3f800000"
	restText = restHead + restOne + "/" + restTwo
)

func cloudOf(t *testing.T, text string) impl.Cloud {
	t.Helper()
	c, ok := readCloudWanted(text)
	wantEqual(t, "whether a cloud has the text "+text, ok, true)
	return c
}

// wantLine tells what a line outputs, and the cloud behind it.
func wantLine(t *testing.T, c impl.Cloud, line, output string, want impl.Cloud) {
	t.Helper()
	after, got, ok := impl.DeskCommand(c, line)
	what := fmt.Sprintf("the line %.200q", line)
	wantEqual(t, what, got, output)
	wantCloud(t, what, after, ok, want)
}

// wantSaid tells what a line outputs that changes nothing.
func wantSaid(t *testing.T, c impl.Cloud, line, output string) {
	t.Helper()
	wantLine(t, c, line, output, c)
}

// deskClouds are clouds without particles, with some, and with as many as a cloud
// may have.
func deskClouds() []impl.Cloud {
	s := newSource()
	full := s.gentleCloud(48)
	return []impl.Cloud{
		impl.NewDesk(), ordinaryCloud(impl.Grid{Wide: 5, High: 4}, 0), ordinaryCloud(impl.Grid{Wide: 5, High: 4}, 1), ordinaryCloud(impl.Grid{Wide: 16, High: 9}, 3),
		s.gentleCloud(7), s.wildCloud(4), full, withList(full, full.Particles[:47]),
	}
}

// Each line of the table at a cloud with particles.
func TestLinesAtACloud(t *testing.T) {
	c := cloudOf(t, restText)
	for _, l := range []struct{ line, output, after string }{
		{"show", restText, restText},
		{"cloud " + emptyText, "ok", emptyText},
		{"cloud " + restText, "ok", restText},
		{"cloud 16,5;bf800000,40200000;" + unitText, "ok", "16,5;bf800000,40200000;" + unitText},
		{"grid 5 16", "ok", "5,16;00000000,00000000;none"},
		{"streams 1 3f000000", "ok", "4,4;00000000,3e000000;0000000040000000,3f00000000000000:bf800000,3f800000/4000000040000000,bf00000000000000:bf800000,3f800000"},
		{"add " + unitText, "ok", restText + "/" + unitText},
		{"drop 0", "ok", restHead + restTwo},
		{"drop 1", "ok", restHead + restOne},
		{"magnet 3f800000", "ok", "4,4;3f800000,00000000;" + restOne + "/" + restTwo},
		{"magnet 80000000", "ok", "4,4;80000000,00000000;" + restOne + "/" + restTwo},
		{"back c0000000", "ok", "4,4;00000000,c0000000;" + restOne + "/" + restTwo},
		{"back 00000001", "ok", "4,4;00000000,00000001;" + restOne + "/" + restTwo},
		{"run 3f000000 0 2", "3f800000,3f800000", restHead + "400000003f800000,3f80000000000000:40000000,3f800000/404000003f800000,00000000bf800000:bf800000,3f800000"},
		{"run 3f000000 0 0", "none", restText},
		{"run 3f000000 60 0", "none", restText},
		{"drift 3f000000", "ok", restHead + "3fc000003f800000,3f80000000000000:40000000,3f800000/404000003fc00000,00000000bf800000:bf800000,3f800000"},
		{"drift bf800000", "ok", restHead + "000000003f800000,3f80000000000000:40000000,3f800000/4040000040400000,00000000bf800000:bf800000,3f800000"},
		{"turn", "ok", "4,4;80000000,00000000;3f8000003f800000,bf80000080000000:40000000,3f800000/4040000040000000,800000003f800000:bf800000,3f800000"},
		{"sort", "ok", restText},
		{"kinetic", "3f800000", restText},
		{"total", "3f800000", restText},
		{"momentum", "3f800000bf800000", restText},
		{"energy 0", "3f800000", restText},
		{"force 0 0", "0000000000000000", restText},
		{"force 1 0", "8000000080000000", restText},
		{"charge 0", "00000000", restText},
		{"charge 5", "40000000", restText},
		{"charge 11", "bf800000", restText},
		{"charge 15", "00000000", restText},
		{"order", "0,1", restText},
		{"cells", "5,11", restText},
		{"count", "2", restText},
	} {
		wantLine(t, c, l.line, l.output, cloudOf(t, l.after))
	}
	turned := cloudOf(t, restHead+restTwo+"/"+restOne)
	wantLine(t, turned, "sort", "ok", c)
	wantSaid(t, turned, "order", "1,0")
	wantSaid(t, turned, "cells", "11,5")
}

// Each line of the table at a cloud without particles.
func TestLinesAtANewDesk(t *testing.T) {
	c := cloudOf(t, emptyText)
	for _, l := range []struct{ line, output, after string }{
		{"show", emptyText, emptyText},
		{"cloud " + restText, "ok", restText},
		{"cloud " + emptyText, "ok", emptyText},
		{"grid 4 4", "ok", emptyText},
		{"grid 16 4", "ok", "16,4;00000000,00000000;none"},
		{"streams 1 00000000", "ok", "4,4;00000000,3e000000;0000000040000000,0000000000000000:bf800000,3f800000/4000000040000000,8000000000000000:bf800000,3f800000"},
		{"add " + unitText, "ok", restHead + unitText},
		{"drop 0", "no", emptyText},
		{"magnet 3f800000", "ok", "4,4;3f800000,00000000;none"},
		{"back 3f800000", "ok", "4,4;00000000,3f800000;none"},
		{"run 3f800000 3 3", "00000000,00000000,00000000", emptyText},
		{"run 7f7fffff 60 20", strings.Repeat("00000000,", 19) + "00000000", emptyText},
		{"drift 3f800000", "ok", emptyText},
		{"turn", "ok", "4,4;80000000,00000000;none"},
		{"sort", "ok", emptyText},
		{"kinetic", "00000000", emptyText},
		{"total", "00000000", emptyText},
		{"momentum", "0000000000000000", emptyText},
		{"energy 60", "00000000", emptyText},
		{"force 0 0", "no", emptyText},
		{"charge 15", "00000000", emptyText},
		{"charge 16", "no", emptyText},
		{"order", "none", emptyText},
		{"cells", "none", emptyText},
		{"count", "0", emptyText},
	} {
		wantLine(t, c, l.line, l.output, cloudOf(t, l.after))
	}
}

// unknownLines have none of the forms.
func unknownLines() []string {
	lines := []string{
		"", " ", "  ", "\n", "\r", "\t", "\x00", "\xff", "what", "no", "ok", "fly", "sho", "shows", "show\r", "show\n", "show\t", "\tshow", "show\x00", "showshow", "\xc3\xa9", "add:" + unitText, "count,0", "s", "none",
		"show ", " show", "show show", "show  ", "count 0", "turn 1", "sort 0", "kinetic 3f800000", "total none", "momentum 0", "order 0", "cells  ",
		"cloud", "add", "drop", "magnet", "back", "drift", "energy", "charge", "grid", "streams", "force", "run", "grid 4", "streams 1", "force 0", "run 3f800000", "run 3f800000 0",
		"cloud " + emptyText + " ", "cloud  " + emptyText, " cloud " + emptyText, "cloud " + emptyText + " x", "add " + unitText + " ", "add  " + unitText, "add " + unitText + " " + unitText,
		"drop 0 ", "drop  0", " drop 0", "drop 0 0", "magnet 3f800000 ", "magnet  3f800000", "back 3f800000 3f800000", "drift  3f800000", "energy 0 ", "energy 0 0", "charge  0", "charge 0 0",
		"grid 4 4 ", "grid  4 4", "grid 4  4", "grid 4 4 4", "streams 1 3f800000 ", "streams  1 3f800000", "force 0  0", "force 0 0 0",
		"run 3f800000 0 0 ", "run  3f800000 0 0", "run 3f800000 0  0", "run 3f800000 0 0 0", " run 3f800000 0 0", "run 3f800000 0 0 " + strings.Repeat("0 ", 5000), strings.Repeat(" ", 100000), strings.Repeat("show", 10000), strings.Repeat("show ", 10000),
		"show\nshow", "count\n", "\ncount", "count\ncount\n", "drop\n0", "grid\n4 4", "\xefshow", "sh\xffow", "show\u00a0", "drop\u00a00", "drop\t0", "DROP 0", "Show",
	}
	for _, form := range lineForms() {
		name, _, _ := strings.Cut(form, " ")
		lines = append(lines, strings.ToUpper(form), strings.ToUpper(form[:1])+form[1:], "x"+form, name+"x"+form[len(name):], form+" 0", " "+form, form+" ")
	}
	return lines
}

func TestUnknownLines(t *testing.T) {
	for _, c := range deskClouds() {
		for _, line := range unknownLines() {
			wantSaid(t, c, line, "what")
		}
	}
}

// refusedLines have words that are not what they must be, at every cloud.
func refusedLines() []string {
	var lines []string
	for _, n := range []string{"", "none", "-1", "+0", "-0", "00", "01", "007", "x", "0x0", "1.0", "1e0", "0,0", "1_0", "0\r", "0\n", "\n0", "\xff", "\u0660", "1000000000000000", "1000000000000001", "-1000000000000000", "-1000000000000001", "9223372036854775807", "9223372036854775808", "18446744073709551616", "99999999999999999999999", strings.Repeat("0", 10000), strings.Repeat("1", 10000)} {
		lines = append(lines, "grid "+n+" 4", "grid 4 "+n, "grid "+n+" "+n, "streams "+n+" 3f800000", "drop "+n, "run 3f800000 "+n+" 1", "run 3f800000 1 "+n, "energy "+n, "force "+n+" 0", "force 0 "+n, "charge "+n)
	}
	for _, x := range []string{"", "none", "0", "1", "1.0", "3f80000", "3f8000000", "3F800000", "3f80000g", "+f800000", "-f800000", "0x3f8000", "3f800000,3f800000", "3f800000,", ",3f800000", "3f8000003f800000", "3f800000\r", "3f800000\n", "\n3f800000", "3f80_000", "7f800000", "ff800000", "7fc00000", "ffc00000", "7f800001", "ffffffff", "\xff", strings.Repeat("0", 10000)} {
		lines = append(lines, "streams 1 "+x, "magnet "+x, "back "+x, "run "+x+" 1 1", "run "+x+" 0 0", "drift "+x)
	}
	for _, text := range wrongClouds() {
		if !strings.Contains(text, " ") {
			lines = append(lines, "cloud "+text)
		}
	}
	for _, text := range wrongParticles() {
		if !strings.Contains(text, " ") {
			lines = append(lines, "add "+text)
		}
	}
	return append(lines, "grid 3 4", "grid 4 3", "grid 17 4", "grid 4 17", "grid 0 0", "grid -4 -4", "grid 4294967300 4", "grid  ", "run   ", "streams  ", "force  ", "cloud ", "add ", "drop ", "magnet ", "back ", "drift ", "energy ", "charge ",
		"streams 0 3f800000", "streams -1 3f800000", "streams 25 3f800000", "streams 4294967297 3f800000", "run 3f800000 -1 1", "run 3f800000 61 1", "run 3f800000 61 0", "run 3f800000 1 -1", "run 3f800000 1 21", "run 3f800000 4294967296 1", "run 3f800000 1 4294967296",
		"energy -1", "energy 61", "force 0 61", "force 0 -1", "force -1 0", "force 48 0", "force 4294967296 0", "drop -1", "drop 48", "drop 4294967296", "charge -1", "charge 256", "charge 4294967296", "cloud none", "add none")
}

func TestRefusedLines(t *testing.T) {
	for _, c := range deskClouds() {
		for _, line := range refusedLines() {
			wantSaid(t, c, line, "no")
		}
	}
}

func TestIndicesOfLines(t *testing.T) {
	for _, c := range deskClouds() {
		n, points := len(c.Particles), int(c.Grid.Wide*c.Grid.High)
		for _, i := range []int{-1, n, n + 1, math.MaxInt32} {
			wantSaid(t, c, fmt.Sprint("drop ", i), "no")
			wantSaid(t, c, fmt.Sprintf("force %d 0", i), "no")
		}
		for _, i := range []int{-1, points, points + 1, math.MaxInt32} {
			wantSaid(t, c, fmt.Sprint("charge ", i), "no")
		}
		for i := range n {
			left := slices.Concat(c.Particles[:i], c.Particles[i+1:])
			wantLine(t, c, fmt.Sprint("drop ", i), "ok", withList(c, left))
			forces, _ := impl.ForcesOf(c, 2)
			wantSaid(t, c, fmt.Sprintf("force %d 2", i), bitsTold(real(forces[i]))+bitsTold(imag(forces[i])))
		}
		field, _ := impl.CloudCharge(c)
		for i, x := range field {
			wantSaid(t, c, fmt.Sprint("charge ", i), bitsTold(x))
		}
	}
}

func TestFullClouds(t *testing.T) {
	p := particleOf([6]float32{1, 0, 1, 0, 1, 1})
	c := impl.NewDesk()
	for n := range 50 {
		if n >= 48 {
			wantSaid(t, c, "add "+unitText, "no")
			continue
		}
		more := withList(c, append(slices.Clone(c.Particles), p))
		wantLine(t, c, "add "+unitText, "ok", more)
		wantSaid(t, more, "count", fmt.Sprint(n+1))
		c = more
	}
	wantLine(t, c, "drop 47", "ok", withList(c, c.Particles[:47]))
	wantSaid(t, c, "cloud "+restHead+manyParticles(49), "no")
	wantLine(t, impl.NewDesk(), "cloud "+restHead+manyParticles(48), "ok", withList(impl.NewDesk(), repeated(ordinaryParticle(), 48)))
}

// All but the particles is new behind grid, and all but the grid behind streams.
func TestLinesThatMakeClouds(t *testing.T) {
	for _, c := range deskClouds() {
		for side := int64(4); side <= 16; side++ {
			for other := int64(4); other <= 16; other++ {
				wantLine(t, c, fmt.Sprintf("grid %d %d", side, other), "ok", impl.Cloud{Grid: impl.Grid{Wide: side, High: other}})
			}
		}
		for count := int64(1); count <= 24; count++ {
			for _, speed := range edgeNumbers() {
				streams, ok := impl.TwoStreams(c.Grid, count, speed)
				wantEqual(t, "TwoStreams succeeds", ok, true)
				wantLine(t, c, fmt.Sprintf("streams %d %s", count, hexOf(speed)), "ok", streams)
			}
		}
		wantLine(t, c, "cloud "+restText, "ok", cloudOf(t, restText))
	}
}

func TestLinesThatSetNumbers(t *testing.T) {
	for _, c := range deskClouds() {
		for _, x := range append(edgeNumbers(), oddNumbers()...) {
			magnet, back := c, c
			magnet.Magnet, back.Back = x, x
			if finite(x) {
				wantLine(t, c, "magnet "+hexOf(x), "ok", magnet)
				wantLine(t, c, "back "+hexOf(x), "ok", back)
			} else {
				wantSaid(t, c, "magnet "+hexOf(x), "no")
				wantSaid(t, c, "back "+hexOf(x), "no")
			}
		}
	}
}

// Lines for which a function fails that takes its words, as its result would not
// be finite.
func TestLinesThatLeaveFiniteNumbers(t *testing.T) {
	fast := withList(impl.NewDesk(), []impl.Particle{{Speed: math.MaxFloat32, Charge: 1, Mass: 1}})
	for _, line := range []string{"drift 7f7fffff", "drift 40000000", "run 7f7fffff 0 1", "run 7f7fffff 0 20", "run 40000000 1 1"} {
		wantSaid(t, fast, line, "no")
	}
	wantLine(t, fast, "run 00000000 0 3", "7f800000,7f800000,7f800000", fast)
	wantSaid(t, fast, "kinetic", "7f800000")
	wantSaid(t, fast, "momentum", "7f7fffff00000000")
	wantSaid(t, fast, "energy 0", "7f800000")
	charged := withList(fast, repeated(impl.Particle{Charge: math.MaxFloat32, Mass: 1}, 2))
	wantSaid(t, charged, "total", "7f800000")
	wantSaid(t, charged, "charge 0", "7f800000")
	wantSaid(t, charged, "energy 1", "7fc00000")
	wantSaid(t, charged, "force 0 1", "7fc000007fc00000")
	wantSaid(t, charged, "run 3f800000 1 1", "no")
	wantLine(t, charged, "run 3f800000 1 0", "none", charged)
	heavy := withList(fast, []impl.Particle{{Speed: -math.MaxFloat32, Mass: 4}, {Speed: math.MaxFloat32, Mass: 4}})
	wantSaid(t, heavy, "momentum", "7fc0000000000000")
}

// What a desk outputs is what the functions tell, and the cloud is what they
// make, to the last bit.
func TestLinesTellWhatFunctionsTell(t *testing.T) {
	s := newSource()
	for range 150 {
		c := s.anyCloud(1 + s.Intn(48))
		rounds, index, tick := s.Int63n(61), s.Int63n(int64(len(c.Particles))), float32(s.Float64())
		for _, form := range lineForms() {
			line := strings.NewReplacer("N", fmt.Sprint(index), "R", fmt.Sprint(rounds), "K", fmt.Sprint(s.Intn(4)), "X", hexOf(tick), "C", textOfCloud(s.anyCloud(2)), "P", textOfParticle(s.anyCloud(1).Particles[0])).Replace(form)
			after, output, _ := commandWanted(c, line)
			wantLine(t, c, line, output, after)
		}
		wantLine(t, c, "show", textOfCloud(c), c)
		wantSaid(t, c, "kinetic", bitsTold(kineticWanted(c)))
		wantSaid(t, c, "total", bitsTold(totalWanted(c)))
		momentum := momentumWanted(c)
		wantSaid(t, c, "momentum", bitsTold(real(momentum))+bitsTold(imag(momentum)))
		wantSaid(t, c, fmt.Sprint("energy ", rounds%4), bitsTold(cloudEnergyWanted(c, rounds%4)))
		force := forcesWanted(c, rounds%4)[index]
		wantSaid(t, c, fmt.Sprintf("force %d %d", index, rounds%4), bitsTold(real(force))+bitsTold(imag(force)))
		wantSaid(t, c, fmt.Sprint("charge ", index%16), bitsTold(cloudChargeWanted(c)[index%16]))
		wantSaid(t, c, "count", fmt.Sprint(len(c.Particles)))
	}
}

func TestAnyLines(t *testing.T) {
	s := newSource()
	said := map[string]int{}
	for range 6000 {
		c, line := s.anyCloud(s.Intn(5)), s.command()
		after, output, _ := commandWanted(c, line)
		wantLine(t, c, line, output, after)
		said[output]++
	}
	for _, output := range []string{"ok", "no", "what"} {
		wantEqual(t, "whether many lines are answered with "+output, said[output] > 300, true)
	}
}
