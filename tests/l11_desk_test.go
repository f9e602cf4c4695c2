package tests

import (
	"fmt"
	"strings"
	"testing"

	"loop.example/g01226/impl"
)

// wantScript tells what a script outputs, and the cloud behind it.
func wantScript(t *testing.T, c impl.Cloud, script, outputs string, want impl.Cloud) {
	t.Helper()
	after, got, ok := impl.RunDesk(c, script)
	what := fmt.Sprintf("the script %.200q", script)
	wantEqual(t, what, got, outputs)
	wantCloud(t, what, after, ok, want)
}

func wantNoScript(t *testing.T, c impl.Cloud, script string) {
	t.Helper()
	wantFailures(t, []badCall{{fmt.Sprintf("RunDesk with %.200q", script), call2(impl.RunDesk(c, script))}})
}

func TestExamplesOfDesk(t *testing.T) {
	wantSaid(t, impl.NewDesk(), "show", "4,4;00000000,00000000;none")
	wantSaid(t, impl.NewDesk(), "kinetic", "00000000")
	wantScript(t, impl.NewDesk(), "show\nkinetic\n", "4,4;00000000,00000000;none\n00000000\n", impl.NewDesk())
}

func TestNewDesk(t *testing.T) {
	wantCloud(t, "NewDesk", impl.NewDesk(), impl.ValidCloud(impl.NewDesk()), impl.Cloud{Grid: impl.Grid{Wide: 4, High: 4}})
	wantEqual(t, "the text of NewDesk", textOfCloud(impl.NewDesk()), emptyText)
}

func TestDeskAsTold(t *testing.T) {
	s := newSource()
	for range 3000 {
		a := s.anyDesk()
		wantDeskWords(t, a, deskWanted().wordsOf(a))
	}
}

func TestScripts(t *testing.T) {
	desk := impl.NewDesk()
	wantScript(t, desk, "", "", desk)
	wantScript(t, desk, "\n", "what\n", desk)
	wantScript(t, desk, "\n\n\n", "what\nwhat\nwhat\n", desk)
	wantScript(t, desk, "count\n", "0\n", desk)
	wantScript(t, desk, "count\n\ncount\n", "0\nwhat\n0\n", desk)
	wantScript(t, desk, "count\r\ncount\n", "what\n0\n", desk)
	wantScript(t, desk, "drop 0\nfly\nshow\n", "no\nwhat\n"+emptyText+"\n", desk)
	one := cloudOf(t, "5,6;3f800000,40000000;"+unitText)
	wantScript(t, desk, "grid 5 6\nmagnet 3f800000\nback 40000000\nadd "+unitText+"\ncount\n", "ok\nok\nok\nok\n1\n", one)
	wantScript(t, one, "drop 1\ndrop 0\ndrop 0\ncount\nback 00000000\nmagnet 00000000\ngrid 3 4\ngrid 4 4\nshow\n", "no\nok\nno\n0\nok\nok\nno\nok\n"+emptyText+"\n", desk)
	rest := cloudOf(t, restText)
	wantScript(t, desk, "cloud "+restText+"\nturn\nturn\ndrift 3f000000\ndrift bf000000\nsort\nkinetic\nrun 3f000000 0 1\n", "ok\nok\nok\nok\nok\nok\n3f800000\n3f800000\n",
		cloudOf(t, restHead+"3fc000003f800000,3f80000000000000:40000000,3f800000/404000003fc00000,00000000bf800000:bf800000,3f800000"))
	wantScript(t, rest, "add "+restOne+"\norder\nsort\norder\ncells\ndrop 1\nshow\n", "ok\n0,2,1\nok\n0,1,2\n5,5,11\nok\n"+restText+"\n", rest)
	wantScript(t, rest, strings.Repeat("add "+unitText+"\n", 50)+"count\n", strings.Repeat("ok\n", 46)+strings.Repeat("no\n", 4)+"48\n", withList(rest, append(rest.Particles, repeated(particleOf([6]float32{1, 0, 1, 0, 1, 1}), 46)...)))
}

// A script does what its lines do one after another, also when it is cut between
// two of them.
func TestScriptsDoWhatLinesDo(t *testing.T) {
	s := newSource()
	for range 300 {
		c, lines := s.anyCloud(s.Intn(6)), s.commands(s.Intn(12))
		after, outputs, all := c, "", []impl.Cloud{c}
		for _, line := range lines {
			next, output, ok := impl.DeskCommand(after, line)
			wantEqual(t, "DeskCommand succeeds", ok, true)
			after, outputs, all = next, outputs+output+"\n", append(all, next)
		}
		wantScript(t, c, scriptOf(lines...), outputs, after)
		said := strings.SplitAfter(outputs, "\n")
		for i := range lines {
			wantScript(t, c, scriptOf(lines[:i]...), strings.Join(said[:i], ""), all[i])
			wantScript(t, all[i], scriptOf(lines[i:]...), strings.Join(said[i:], ""), after)
		}
	}
}

func TestScriptsMustEndWithNewlines(t *testing.T) {
	for _, c := range deskClouds() {
		for _, script := range []string{"show", " ", "x", "\r", "show\nshow", "\nshow", "show\n ", "show\n\r", "\n\x00", "show\r", "\n\n\nx", "show\v", "show\x00"} {
			wantNoScript(t, c, script)
		}
	}
}

func TestScriptsHaveALimit(t *testing.T) {
	c := cloudOf(t, restText)
	wantScript(t, c, strings.Repeat("count\n", 2000), strings.Repeat("2\n", 2000), c)
	wantNoScript(t, c, strings.Repeat("count\n", 2000)+"\n")
	wantNoScript(t, c, "count \n"+strings.Repeat("count\n", 1999))
	wantScript(t, c, strings.Repeat("\n", 12000), strings.Repeat("what\n", 12000), c)
	wantNoScript(t, c, strings.Repeat("\n", 12001))
	wantNoScript(t, c, strings.Repeat("\n", 1000000))
	wantScript(t, c, strings.Repeat("x", 11999)+"\n", "what\n", c)
	wantNoScript(t, c, strings.Repeat("x", 12000)+"\n")
	wantNoScript(t, c, strings.Repeat("x", 12000))
	wantScript(t, c, strings.Repeat("show\n", 2400), strings.Repeat(restText+"\n", 2400), c)
	wantScript(t, c, strings.Repeat("turn\n", 2400), strings.Repeat("ok\n", 2400), withTurns(c, 2400))
	wantScript(t, c, strings.Repeat("turn\n", 2399), strings.Repeat("ok\n", 2399), withTurns(c, 2399))
}

func withTurns(c impl.Cloud, n int) impl.Cloud {
	for range n {
		c, _ = backWantedOfCloud(c)
	}
	return c
}

// Lines that are answered with no or what may be left out.
func TestRefusedLinesChangeNothing(t *testing.T) {
	s := newSource()
	for range 200 {
		c, lines := s.anyCloud(s.Intn(6)), s.commands(12)
		after, outputs, _ := impl.RunDesk(c, scriptOf(lines...))
		var taken []string
		told := ""
		for i, output := range strings.SplitAfter(strings.TrimSuffix(outputs, "\n"), "\n") {
			if text := strings.TrimSuffix(output, "\n"); text != "no" && text != "what" {
				taken, told = append(taken, lines[i]), told+text+"\n"
			}
		}
		wantScript(t, c, scriptOf(taken...), told, after)
	}
}

// Texts that a desk outputs are those of what it is then.
func TestShownCloudsAreReadBack(t *testing.T) {
	s := newSource()
	for range 300 {
		c, _, _ := impl.RunDesk(s.wildCloud(s.Intn(49)), scriptOf(s.commands(5)...))
		_, shown, _ := impl.DeskCommand(c, "show")
		wantReadCloud(t, shown, c)
		wantLine(t, impl.NewDesk(), "cloud "+shown, "ok", c)
		for _, p := range c.Particles {
			text, _ := impl.ParticleText(p)
			wantLine(t, impl.NewDesk(), "add "+text, "ok", withList(impl.NewDesk(), []impl.Particle{p}))
		}
	}
}
