package tests

import (
	"fmt"
	"math"
	"slices"
	"strings"
	"testing"

	"loop.example/g01226/impl"
)

func bitsOfDesk(c impl.Cloud, output string, ok bool) string {
	return fmt.Sprintf("%s %q", bitsOfCloud(c, ok), output)
}

func bitsOfLines(lines []string, length int64, ok bool) string {
	return fmt.Sprintf("%q %d %t", lines, length, ok)
}

func bitsOfJournal(c impl.Cloud, count int64, ok bool) string {
	return fmt.Sprint(bitsOfCloud(c, ok), count)
}

// deskCalls tell what all functions of chapter 11 return.
func deskCalls(a deskArguments) string {
	p, one := impl.ReadParticle(a.text)
	return strings.Join([]string{
		bitsOfCloud(impl.NewDesk(), true), bitsOfBytes(impl.CloudText(a.c)), bitsOfCloud(impl.ReadCloud(a.text)), bitsOfBytes(impl.ParticleText(a.p)),
		bitsOfParticles([]impl.Particle{p}), fmt.Sprint(one), bitsOfDesk(impl.DeskCommand(a.c, a.line)), bitsOfDesk(impl.RunDesk(a.c, a.script)),
		bitsOfBytes(impl.JournalOf(a.lines)), bitsOfLines(impl.RecoverJournal(a.journal)), bitsOfJournal(impl.RunJournal(a.c, a.journal)),
	}, ";")
}

// sameDeskAgain makes copies of what has memory.
func sameDeskAgain(a deskArguments) deskArguments {
	a.c.Particles, a.lines = slices.Clone(a.c.Particles), slices.Clone(a.lines)
	for _, text := range []*string{&a.text, &a.line, &a.script, &a.journal} {
		*text = strings.Clone(*text)
	}
	for i, line := range a.lines {
		a.lines[i] = strings.Clone(line)
	}
	return a
}

// oddDesks are valid and invalid arguments of many sizes.
func oddDesks() []deskArguments {
	s := newSource()
	var all []deskArguments
	for i, c := range append(invalidClouds(), deskClouds()...) {
		forms := lineForms()
		a := s.anyDesk()
		a.c, a.text, a.line = c, textOfCloud(c), forms[i%len(forms)]
		all = append(all, a)
	}
	for i, p := range invalidParticles() {
		a := s.anyDesk()
		a.p, a.text, a.lines = p, textOfParticle(p), repeated("\n", i)
		all = append(all, a)
	}
	for range 600 {
		all = append(all, s.anyDesk())
	}
	return all
}

// Every function returns the same for the same arguments, valid or not, in any
// order of calls, and leaves all that it gets as it is.
func TestArgumentsOfDeskStayUnchanged(t *testing.T) {
	filler := impl.Particle{At: 77, Speed: 78, Charge: 79, Mass: 80}
	all := oddDesks()
	var first []string
	var lists, copies [][]impl.Particle
	var lines, same [][]string
	for i := range all {
		var list []impl.Particle
		var line []string
		all[i].c.Particles, list = withRoom(all[i].c.Particles, filler)
		all[i].lines, line = withRoom(all[i].lines, "filler")
		lists, copies = append(lists, list), append(copies, slices.Clone(list))
		lines, same = append(lines, line), append(same, slices.Clone(line))
		first = append(first, deskCalls(all[i]))
	}
	for i := len(all) - 1; i >= 0; i-- {
		wantEqual(t, shortened("a second call with", all[i]), deskCalls(sameDeskAgain(all[i])), first[i])
	}
	for i := range lists {
		if !equalParticleBits(lists[i], copies[i]) || !slices.Equal(lines[i], same[i]) {
			t.Fatalf("an argument has been changed: %s", shortened(copies[i], same[i]))
		}
	}
}

// Each line of the table leaves the particles of its cloud, and what is behind
// them, as they are.
func TestLinesLeaveTheirCloud(t *testing.T) {
	filler := impl.Particle{At: 77, Speed: 78, Charge: 79, Mass: 80}
	s := newSource()
	for _, n := range []int{0, 1, 2, 45, 47, 48} {
		for _, form := range lineForms() {
			c := s.gentleCloud(n)
			part, whole := withRoom(c.Particles, filler)
			c.Particles = part
			kept := slices.Clone(whole)
			line := strings.NewReplacer("N", "1", "R", "2", "K", "5", "X", "3d800000", "C", restText, "P", unitText).Replace(form)
			impl.DeskCommand(c, line)
			impl.RunDesk(c, scriptOf(line, line, "drop 0", line, "add "+unitText, "turn", line))
			impl.RunJournal(c, journalText(t, line, line, "drop 0", line, "add "+unitText, "turn", line))
			if !equalParticleBits(whole, kept) {
				t.Errorf("the line %s changes its cloud of %d", line, n)
			}
		}
	}
}

// resultsOfDesk are all lists that functions return, also those of lines that
// change nothing.
func resultsOfDesk(t *testing.T, c impl.Cloud) (lists [][]impl.Particle, lines [][]string) {
	keep := func(d impl.Cloud, _ string, ok bool) { lists = append(lists, d.Particles) }
	keepCounted := func(d impl.Cloud, _ int64, ok bool) { lists = append(lists, d.Particles) }
	keepLines := func(list []string, _ int64, ok bool) { lines = append(lines, list) }
	for range 2 {
		read, _ := impl.ReadCloud(textOfCloud(c))
		lists = append(lists, read.Particles)
		keep(impl.RunDesk(c, ""))
		keepCounted(impl.RunJournal(c, ""))
		for _, form := range lineForms() {
			line := strings.NewReplacer("N", "1", "R", "2", "K", "5", "X", "3d800000", "C", restText, "P", unitText).Replace(form)
			if form == "grid K K" {
				line = "fly"
			}
			keep(impl.DeskCommand(c, line))
			keep(impl.DeskCommand(c, line+" 0"))
			keep(impl.RunDesk(c, scriptOf(line)))
			keep(impl.RunDesk(c, scriptOf("show", line, "turn", "fly")))
			keepCounted(impl.RunJournal(c, journalText(t, line)))
			keepCounted(impl.RunJournal(c, journalText(t, "show", line, "no")))
			keepLines(impl.RecoverJournal(journalText(t, line)))
			keepLines(impl.RecoverJournal(journalText(t, line, "", "a b")))
		}
	}
	return lists, lines
}

// Results that have been overwritten, also behind their ends, change neither
// arguments nor each other nor later results.
func TestResultsOfDeskAreNew(t *testing.T) {
	s := newSource()
	for _, n := range []int{2, 3, 7, 47} {
		c := s.gentleCloud(n)
		a := deskArguments{c: c, p: c.Particles[0], text: textOfCloud(c), line: "turn", script: "turn\nshow\n", lines: []string{"turn", "show"}, journal: journalText(t, "turn", "show", "sort")}
		again, before := sameDeskAgain(a), deskCalls(a)
		lists, lines := resultsOfDesk(t, c)
		wantApart(t, "particles", lists, impl.Particle{At: 9, Speed: 9, Charge: 9, Mass: 9}, bitsOfParticles)
		wantApart(t, "lines", lines, "overwritten", func(list []string) string { return fmt.Sprintf("%q", list) })
		wantEqual(t, "calls after results have been overwritten", deskCalls(a), before)
		wantEqual(t, "calls with copies after results have been overwritten", deskCalls(again), before)
		if !equalParticleBits(a.c.Particles, again.c.Particles) || !slices.Equal(a.lines, again.lines) {
			t.Error("a result shares memory with an argument")
		}
	}
	desk := impl.NewDesk()
	desk.Particles = append(desk.Particles, ordinaryParticle())
	desk.Grid.Wide, desk.Magnet = 9, 9
	wantCloud(t, "another new desk", impl.NewDesk(), true, impl.Cloud{Grid: impl.Grid{Wide: 4, High: 4}})
}

// One list may be a part of a longer one, and that of two clouds.
func TestDesksMayShareMemory(t *testing.T) {
	s := newSource()
	for range 100 {
		whole := s.gentleCloud(40)
		kept := slices.Clone(whole.Particles)
		a := s.anyDesk()
		a.c = withList(whole, whole.Particles[3:10])
		wantEqual(t, "calls with a part of a list", deskCalls(a), deskCalls(sameDeskAgain(a)))
		if !equalParticleBits(whole.Particles, kept) {
			t.Fatal("a list of particles has been changed")
		}
	}
}

// Nil and empty lists are the same value.
func TestNilAndEmptyAreEqualForDesks(t *testing.T) {
	for _, form := range lineForms() {
		line := strings.NewReplacer("N", "0", "R", "1", "K", "5", "X", "3f800000", "C", restText, "P", unitText).Replace(form)
		none := deskArguments{c: impl.NewDesk(), line: line, script: line + "\n", journal: journalText(t, line)}
		none.c.Particles = nil
		empty := none
		empty.c.Particles, empty.lines = []impl.Particle{}, []string{}
		wantEqual(t, "calls without particles or lines", deskCalls(none), deskCalls(empty))
	}
}

// A not-a-number with other bits is an equal argument.
func TestAllNotANumbersAreOneArgumentOfDesks(t *testing.T) {
	for _, bits := range []uint32{0x7f800001, 0xffc00000, 0xffffffff} {
		for i := range 14 {
			var calls []string
			for _, nan := range []float32{fromBits(0x7fc00000), fromBits(bits)} {
				numbers := repeated(float32(2), 14)
				numbers[i] = nan
				a := deskArguments{c: cloudAs(impl.Grid{Wide: 4, High: 4}, numbers[:8]), p: particleOf([6]float32(numbers[8:])), line: "show", script: "show\n"}
				calls = append(calls, deskCalls(a))
			}
			wantEqual(t, fmt.Sprintf("results with another not-a-number as number %d", i), calls[1], calls[0])
		}
	}
}

// Calls that run at once, with the same arguments, return what one call returns.
func TestDesksAtOnceAreEqual(t *testing.T) {
	s := newSource()
	a := s.anyDesk()
	a.c, a.line, a.script = s.gentleCloud(20), "run 3d800000 3 3", scriptOf(append(s.commands(20), "show")...)
	a.journal = journalText(t, s.commands(20)...)
	want := deskCalls(a)
	calls := make(chan string)
	for range 32 {
		go func() { calls <- deskCalls(a) }()
	}
	for range 32 {
		wantEqual(t, "desks at once", <-calls, want)
	}
}

// Numbers far beyond all limits, and long texts.
func TestFarNumbersOfDesks(t *testing.T) {
	s := newSource()
	for _, far := range []int64{1 << 31, 1 << 32, 1<<32 + 4, 1 << 62, math.MaxInt64, math.MinInt64, -1 << 32} {
		for i := range 2 {
			a := s.anyDesk()
			*[]*int64{&a.c.Grid.Wide, &a.c.Grid.High}[i] = far
			wantEqual(t, fmt.Sprint("calls with far numbers ", i, far), deskCalls(sameDeskAgain(a)), deskCalls(a))
			wantDeskWords(t, a, deskWanted().wordsOf(a))
		}
		for _, form := range []string{"grid %d 4", "grid 4 %d", "streams %d 3f800000", "drop %d", "run 3f800000 %d 1", "run 3f800000 1 %d", "energy %d", "force %d 1", "force 0 %d", "charge %d"} {
			wantSaid(t, ordinaryCloud(impl.Grid{Wide: 5, High: 4}, 3), fmt.Sprintf(form, far), "no")
		}
	}
	long := strings.Repeat("150 a\n", 1000000)
	wantNoLines(t, long)
	wantNoScript(t, impl.NewDesk(), long)
	wantNoCloudText(t, long)
	wantNoParticleText(t, long)
	wantSaid(t, impl.NewDesk(), long, "what")
	wantSaid(t, impl.NewDesk(), "cloud "+strings.ReplaceAll(long, " ", ";"), "no")
	wantSaid(t, impl.NewDesk(), "drop "+strings.Repeat("9", 1000000), "no")
}
