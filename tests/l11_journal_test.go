package tests

import (
	"fmt"
	"slices"
	"strings"
	"testing"

	"loop.example/g01226/impl"
)

func journalText(t *testing.T, lines ...string) string {
	t.Helper()
	text, ok := impl.JournalOf(lines)
	wantEqual(t, shortened("JournalOf succeeds for ", len(lines), lines), ok, true)
	return text
}

func wantNoJournal(t *testing.T, lines ...string) {
	t.Helper()
	wantFailures(t, []badCall{{shortened("JournalOf ", len(lines), lines), call1(impl.JournalOf(lines))}})
}

// wantLines tells which lines are recovered of a text, and that their journal is
// its beginning.
func wantLines(t *testing.T, text string, want []string, length int) {
	t.Helper()
	got, n, ok := impl.RecoverJournal(text)
	what := fmt.Sprintf("RecoverJournal(%.200q)", text)
	wantEqual(t, what+" succeeds", ok, true)
	wantEqual(t, what+", the length", n, int64(length))
	if !slices.Equal(got, want) {
		t.Errorf("%s: got %.300q, want %.300q", what, got, want)
	}
	wantEqual(t, what+", the journal", journalText(t, got...), text[:n])
}

func wantNoLines(t *testing.T, text string) {
	t.Helper()
	wantFailures(t, []badCall{
		{fmt.Sprintf("RecoverJournal(%.200q)", text), call2(impl.RecoverJournal(text))},
		{fmt.Sprintf("RunJournal(%.200q)", text), call2(impl.RunJournal(impl.NewDesk(), text))},
	})
}

// wantWritten tells the journal of lines, and that they are recovered.
func wantWritten(t *testing.T, lines []string, want string) {
	t.Helper()
	wantEqual(t, shortened("JournalOf ", lines), journalText(t, lines...), want)
	wantLines(t, want, lines, len(want))
}

// journalLines are lines of many kinds.
func journalLines() [][]string {
	s := newSource()
	return [][]string{
		nil, {""}, {"", ""}, {"a"}, {"a", ""}, {"", "a"}, {"a", "a", "a"}, {" ", "  ", " a", "a "}, {"1", "1 1", "150 a", "0 "}, {"\r", "\x00", "\xff\xfe", "\t"},
		{"show", "kinetic", "fly", "drop 0"}, {"grid 5 6", "streams 3 3f000000", "run 3d800000 3 2", "show"}, s.commands(5), s.commands(3),
	}
}

// endsOf are the lengths of the journals of no line, of the first one, the first
// two, and so on.
func endsOf(t *testing.T, lines []string) []int {
	t.Helper()
	ends := []int{0}
	for i := range lines {
		text, ok := journalWanted(lines[:i+1])
		wantEqual(t, "whether there is a journal", ok, true)
		ends = append(ends, len(text))
	}
	return ends
}

// The check number of "a" is 97 and 53; that of each empty line is that of the
// line before.
func TestJournals(t *testing.T) {
	wantWritten(t, nil, "")
	wantWritten(t, []string{""}, "0 \n")
	wantWritten(t, []string{"", "", ""}, "0 \n0 \n0 \n")
	wantWritten(t, []string{"a"}, "150 a\n")
	wantWritten(t, []string{"a", ""}, "150 a\n150 \n")
	wantWritten(t, []string{"", "a"}, "0 \n150 a\n")
	wantWritten(t, []string{"a", "a"}, "150 a\n42997 a\n")
	wantWritten(t, []string{"aa"}, "42997 aa\n")
	wantWritten(t, []string{" "}, "85  \n")
	wantWritten(t, []string{"150 a"}, fmt.Sprintf("%d 150 a\n", checkOfText("150 a")))
	wantWritten(t, []string{"show", "kinetic"}, fmt.Sprintf("%d show\n%d kinetic\n", checkOfText("show"), checkOfText("showkinetic")))
	wantWritten(t, []string{"\r", "\xff", "\x00"}, fmt.Sprintf("%d \r\n%d \xff\n%d \x00\n", checkOfText("\r"), checkOfText("\r\xff"), checkOfText("\r\xff\x00")))
	for _, lines := range journalLines() {
		want, ok := journalWanted(lines)
		wantEqual(t, "whether there is a journal", ok, true)
		wantWritten(t, lines, want)
	}
}

func TestJournalsOfAnyLines(t *testing.T) {
	s := newSource()
	for range 1000 {
		var lines []string
		for range s.Intn(8) {
			line := make([]byte, s.Intn(20))
			for i := range line {
				line[i] = byte(s.Intn(256))
			}
			lines = append(lines, strings.ReplaceAll(string(line), "\n", " "))
		}
		want, _ := journalWanted(lines)
		wantWritten(t, lines, want)
	}
}

func TestLinesOfJournalsHaveNoNewlines(t *testing.T) {
	for _, bad := range []string{"\n", "a\n", "\na", "a\nb", "\n\n", "150 a\n", "\r\n"} {
		wantNoJournal(t, bad)
		wantNoJournal(t, "a", bad)
		wantNoJournal(t, bad, "a")
		wantNoJournal(t, "a", bad, "")
		wantNoJournal(t, append(repeated("", 3999), bad)...)
	}
}

// longJournal has lines whose journal has as many bytes as told.
func longJournal(t *testing.T, line string, length int) []string {
	t.Helper()
	var lines []string
	for len(writtenLines(lines)) < length-len(line)-300 {
		lines = append(lines, line)
	}
	for _, letter := range []string{"a", "b", "c", "d", "e"} {
		for n := range 1300 {
			all := append(slices.Clone(lines), strings.Repeat(letter, n))
			if len(writtenLines(all)) == length {
				return all
			}
		}
	}
	t.Fatal("no journal has this length")
	return nil
}

func TestJournalsHaveALimit(t *testing.T) {
	for _, line := range []string{"show " + strings.Repeat("x", 500), strings.Repeat("y", 11000)} {
		for length := 11990; length <= 12000; length++ {
			lines := longJournal(t, line, length)
			text, _ := journalWanted(lines)
			wantWritten(t, lines, text)
			last := lines[len(lines)-1]
			longer := append(slices.Clone(lines[:len(lines)-1]), last+strings.Repeat("z", 20))
			wantNoJournal(t, longer...)
			wantNoJournal(t, append(slices.Clone(lines), strings.Repeat("z", 20))...)
		}
		for length := 12001; length <= 12003; length++ {
			wantNoJournal(t, longJournal(t, line, length)...)
		}
		lines := longJournal(t, line, 12000)
		text, _ := journalWanted(lines)
		wantNoJournal(t, append(lines, "")...)
		wantNoLines(t, text+"0")
		wantNoLines(t, text+"\n")
		wantNoLines(t, text+text)
		wantLines(t, text[:11999], lines[:len(lines)-1], endsOf(t, lines)[len(lines)-1])
	}
	wantWritten(t, repeated("", 4000), strings.Repeat("0 \n", 4000))
	wantNoJournal(t, repeated("", 4001)...)
	wantNoJournal(t, repeated("", 1000000)...)
	wantNoJournal(t, strings.Repeat("a", 12000))
	wantNoJournal(t, strings.Repeat("a", 10000000), "b")
	wantNoLines(t, strings.Repeat("0 \n", 4000)+"x")
	wantNoLines(t, strings.Repeat("x", 12001))
	wantLines(t, strings.Repeat("x", 12000), nil, 0)
	wantLines(t, strings.Repeat("\n", 12000), nil, 0)
	wantLines(t, strings.Repeat(" ", 12000), nil, 0)
}

// What is cut off costs no complete line.
func TestCutJournals(t *testing.T) {
	for _, lines := range journalLines() {
		text, ends := journalText(t, lines...), endsOf(t, lines)
		whole := 0
		for cut := 0; cut <= len(text); cut++ {
			if whole+1 < len(ends) && ends[whole+1] <= cut {
				whole++
			}
			wantLines(t, text[:cut], lines[:whole], ends[whole])
			after, count, ok := impl.RunJournal(impl.NewDesk(), text[:cut])
			want, _, _ := impl.RunDesk(impl.NewDesk(), scriptOf(lines[:whole]...))
			wantCloud(t, "RunJournal of a cut text", after, ok, want)
			wantEqual(t, "how many lines of a cut text", count, int64(whole))
		}
	}
}

// The lines before a byte that is another one are recovered, and no more. Where
// two lines become one, or one becomes two, their check number may by chance be
// right, so that the journals of all numbers of lines are tried.
func TestJournalsWithAnotherByte(t *testing.T) {
	for _, lines := range journalLines() {
		text, ends := journalText(t, lines...), endsOf(t, lines)
		whole := 0
		for i := range text {
			if ends[whole+1] <= i {
				whole++
			}
			for b := range 256 {
				if byte(b) == text[i] {
					continue
				}
				other := text[:i] + string([]byte{byte(b)}) + text[i+1:]
				want, length, _ := recoverLinesWanted(other)
				wantLines(t, other, want, int(length))
				if text[i] != '\n' && b != '\n' {
					wantLines(t, other, lines[:whole], ends[whole])
				}
			}
			for _, other := range []string{text[:i] + "0" + text[i:], text[:i] + text[i+1:], text[:i] + "\r" + text[i:], text[:i] + "\n" + text[i:]} {
				want, length, _ := recoverLinesWanted(other)
				wantLines(t, other, want, int(length))
				wantEqual(t, "whether the lines before are there", len(want) >= whole, true)
			}
		}
	}
}

func TestWrittenCheckNumbers(t *testing.T) {
	for _, text := range []string{
		"0150 a\n", "00150 a\n", "+150 a\n", "-150 a\n", " 150 a\n", "150a\n", "150\ta\n", "150  a\n", "1_50 a\n", "0x96 a\n", "150.0 a\n", "15 0 a\n", "149 a\n", "151 a\n", "65153 a\n", "15 a\n", "1500 a\n", "a\n", " a\n", "150\n", "150", "150 ", "150 a", "150 a\r\n", "150 a \n",
		"", "\n", "\n\n", "\n150 a\n", "0\n", "0", "0 ", "00 \n", "+0 \n", "-0 \n", " \n", " 0 \n", "1 \n", "65003 \n", "none", "\u0660 \n", "150 a\x00\n", "\xff",
	} {
		wantLines(t, text, nil, 0)
		wantLines(t, "150 a\n150 \n"+text, []string{"a", ""}, 11)
	}
	for n := range 70000 {
		text := fmt.Sprintf("%d a\n", n)
		got, length, ok := impl.RecoverJournal(text)
		if (len(got) == 1) != (n == 150) || (length == 6) != (n == 150) || !ok {
			t.Errorf("RecoverJournal(%q) is %q, %d", text, got, length)
		}
	}
}

// A check number goes on behind that of the line before.
func TestCheckNumbersGoOn(t *testing.T) {
	wantLines(t, "150 a\n150 a\n", []string{"a"}, 6)
	wantLines(t, "150 a\n42997 a\n42997 \n", []string{"a", "a", ""}, 21)
	wantLines(t, "42997 a\n", nil, 0)
	wantLines(t, "42997 aa\n", []string{"aa"}, 9)
	lines := []string{"show", "count", "turn", "sort"}
	text, ends := journalText(t, lines...), endsOf(t, lines)
	for i := 1; i < 4; i++ {
		wantLines(t, text[ends[i]:], nil, 0)
		wantLines(t, text[:ends[i]]+text[ends[i-1]:], lines[:i], ends[i])
	}
	wantLines(t, text+text, lines, len(text))
}

func TestMoreBehindJournals(t *testing.T) {
	for _, lines := range journalLines() {
		text := journalText(t, lines...)
		check := checkOfText(strings.Join(lines, ""))
		for _, more := range []string{"x", "xx\n", "\n", " ", "0", "\x00", "\xff", "show\n", "show", fmt.Sprint(check), fmt.Sprint(check, " "), fmt.Sprintf("0%d \n", check), fmt.Sprintf("%d x\n", check), strings.Repeat("x\n", 100)} {
			wantLines(t, text+more, lines, len(text))
		}
		wantLines(t, fmt.Sprintf("%s%d \n", text, check), append(slices.Clone(lines), ""), len(text)+len(fmt.Sprint(check))+2)
	}
}

// RunJournal carries out what RecoverJournal recovers.
func TestRunJournal(t *testing.T) {
	s := newSource()
	for range 300 {
		c, lines := s.anyCloud(s.Intn(5)), s.commands(s.Intn(8))
		text := journalText(t, lines...)
		want, _, _ := impl.RunDesk(c, scriptOf(lines...))
		after, count, ok := impl.RunJournal(c, text)
		wantCloud(t, "RunJournal", after, ok, want)
		wantEqual(t, "RunJournal, how many lines", count, int64(len(lines)))
		spoilt := s.spoiltText(text)
		lines, _, _ = recoverLinesWanted(spoilt)
		want, _, _ = impl.RunDesk(c, scriptOf(lines...))
		after, count, ok = impl.RunJournal(c, spoilt)
		wantCloud(t, "RunJournal of another text", after, ok, want)
		wantEqual(t, "RunJournal of another text, how many lines", count, int64(len(lines)))
	}
}

// Lines that are refused count, but change nothing.
func TestRunJournalOfRefusedLines(t *testing.T) {
	for _, c := range deskClouds() {
		for _, lines := range [][]string{nil, {""}, {"drop -1"}, {"fly", "drop -1", "magnet 7f800000", ""}, {"grid 3 4", "show", "cloud none"}, repeated("", 4000)} {
			after, count, ok := impl.RunJournal(c, journalText(t, lines...))
			wantCloud(t, shortened("RunJournal of ", lines), after, ok, c)
			wantEqual(t, shortened("RunJournal of ", lines, ", how many"), count, int64(len(lines)))
		}
		after, count, ok := impl.RunJournal(c, journalText(t, "drop -1", "grid 9 8", "fly", "magnet 3f800000"))
		wantCloud(t, "RunJournal with some refused lines", after, ok, impl.Cloud{Grid: impl.Grid{Wide: 9, High: 8}, Magnet: 1})
		wantEqual(t, "RunJournal with some refused lines, how many", count, 4)
		after, count, ok = impl.RunJournal(c, "x"+journalText(t, "grid 9 8"))
		wantCloud(t, "RunJournal of no journal", after, ok, c)
		wantEqual(t, "RunJournal of no journal, how many", count, 0)
	}
}

// A line of a journal may be longer than one of a script, which it is not part of.
func TestRunJournalOfLongLines(t *testing.T) {
	c := ordinaryCloud(impl.Grid{Wide: 5, High: 4}, 48)
	line := "cloud " + textOfCloud(c)
	after, count, ok := impl.RunJournal(impl.NewDesk(), journalText(t, line, "turn", line, "drop 47", "drop 0"))
	wantCloud(t, "RunJournal of long lines", after, ok, withList(c, c.Particles[1:47]))
	wantEqual(t, "RunJournal of long lines, how many", count, 5)
}
