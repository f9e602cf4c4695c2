package tests

import (
	"fmt"
	"math"
	"math/big"
	"regexp"
	"slices"
	"strconv"
	"strings"
	"testing"

	"loop.example/g01226/impl"
)

const scriptLimit = 12000

func hexOf(x float32) string {
	return fmt.Sprintf("%08x", math.Float32bits(x))
}

func hexesOf(list ...float32) string {
	var words []string
	for _, x := range list {
		words = append(words, hexOf(x))
	}
	return strings.Join(words, ",")
}

// textOfParticle is the text that a particle would have, also one that is not
// valid, with the bits of not-a-numbers as they are.
func textOfParticle(p impl.Particle) string {
	return hexOf(real(p.At)) + hexOf(imag(p.At)) + "," + hexOf(real(p.Speed)) + hexOf(imag(p.Speed)) + ":" + hexesOf(p.Charge, p.Mass)
}

func textOfCloud(c impl.Cloud) string {
	particles := "none"
	for i, p := range c.Particles {
		if i == 0 {
			particles = ""
		} else {
			particles += "/"
		}
		particles += textOfParticle(p)
	}
	return fmt.Sprintf("%d,%d;%s;%s", c.Grid.Wide, c.Grid.High, hexesOf(c.Magnet, c.Back), particles)
}

// manyParticles are texts of particles with the same numbers.
func manyParticles(n int) string {
	return strings.Join(repeated(textOfParticle(ordinaryParticle()), n), "/")
}

// lineForms are the lines of the table: N is an integer, R one of rounds, K one
// of steps or of a side, X a number, C the text of a cloud and P that of a particle.
func lineForms() []string {
	return []string{
		"cloud C", "grid K K", "streams N X", "show", "add P", "drop N", "magnet X", "back X", "run X R K", "drift X", "turn", "sort",
		"kinetic", "total", "momentum", "energy R", "force N R", "charge N", "order", "cells", "count",
	}
}

// oddWords are words that are mostly not what they must be.
func oddWords() []string {
	return []string{
		"", "none", "-1", "+1", "01", "00", "-0", "+0", "1000000000000000", "1000000000000001", "-1000000000000000", "9223372036854775808", "1e1", "1.0", "0x1", "x", "N",
		"7f800000", "ff800000", "7fc00000", "ffc00000", "7f800001", "3F800000", "3f80000", "3f8000000", "3f800000,3f800000", "3f800000,", ",3f800000", "3f8000003f800000",
		"1\r", "\r", "\t", "\x00", "\xff", "show", "0\n", "4,4;00000000,00000000;none", "4,4;00000000,00000000;", "\u0661",
	}
}

// word is mostly one of the kind that a letter of a form means.
func (s source) word(kind byte) string {
	if odd := oddWords(); s.Intn(12) == 0 {
		return odd[s.Intn(len(odd))]
	}
	switch kind {
	case 'N':
		return strconv.Itoa(s.Intn(9) - 1)
	case 'R':
		return strconv.Itoa(s.Intn(3))
	case 'K':
		return strconv.Itoa(s.Intn(18) / (1 + s.Intn(2)))
	case 'X':
		return hexOf([]float32{float32(s.Float64()), -float32(s.Float64()), s.number(), s.finiteBits()}[s.Intn(4)])
	case 'C':
		return textOfCloud(s.anyCloud(s.Intn(4)))
	}
	return textOfParticle(s.anyCloud(1).Particles[0])
}

// command is mostly a line of the table.
func (s source) command() string {
	forms := lineForms()
	words := strings.Split(forms[s.Intn(len(forms))], " ")
	for i, word := range words[1:] {
		words[i+1] = s.word(word[0])
	}
	switch s.Intn(40) {
	case 0:
		words = words[:len(words)-1]
	case 1:
		words = append(words, "0")
	case 2:
		words = slices.Insert(words, s.Intn(len(words)+1), "")
	case 3:
		words[0] = strings.ToUpper(words[0])
	case 4:
		words[0] += "x"
	}
	return strings.Join(words, " ")
}

// commands have none with a newline.
func (s source) commands(n int) []string {
	var lines []string
	for range n {
		lines = append(lines, strings.ReplaceAll(s.command(), "\n", ""))
	}
	return lines
}

func scriptOf(lines ...string) string {
	script := ""
	for _, line := range lines {
		script += line + "\n"
	}
	return script
}

// deskArguments are all arguments of the functions of chapter 11.
type deskArguments struct {
	c                           impl.Cloud
	p                           impl.Particle
	text, line, script, journal string
	lines                       []string
}

// deskFunctions are all functions of chapter 11 that take something.
type deskFunctions struct {
	cloudText    func(c impl.Cloud) (string, bool)
	readCloud    func(t string) (impl.Cloud, bool)
	particleText func(p impl.Particle) (string, bool)
	readParticle func(t string) (impl.Particle, bool)
	command      func(c impl.Cloud, line string) (impl.Cloud, string, bool)
	run          func(c impl.Cloud, script string) (impl.Cloud, string, bool)
	journal      func(lines []string) (string, bool)
	rescue       func(t string) ([]string, int64, bool)
	runJournal   func(c impl.Cloud, t string) (impl.Cloud, int64, bool)
}

func deskGiven() deskFunctions {
	return deskFunctions{
		impl.CloudText, impl.ReadCloud, impl.ParticleText, impl.ReadParticle, impl.DeskCommand, impl.RunDesk, impl.JournalOf, impl.RecoverJournal, impl.RunJournal,
	}
}

func deskWanted() deskFunctions {
	return deskFunctions{
		cloudTextWanted, readCloudWanted, particleTextWanted, readParticleWanted, commandWanted, scriptWanted, journalWanted, recoverLinesWanted, runJournalWanted,
	}
}

// wordsOf tells what the functions return, in the order of the chapter.
func (f deskFunctions) wordsOf(a deskArguments) string {
	read, one := f.readParticle(a.text)
	after, output, two := f.command(a.c, a.line)
	last, outputs, three := f.run(a.c, a.script)
	lines, length, four := f.rescue(a.journal)
	behind, count, five := f.runJournal(a.c, a.journal)
	return strings.Join([]string{
		wordOfBytes(f.cloudText(a.c)), wordOfShotCloud(f.readCloud(a.text)), wordOfBytes(f.particleText(a.p)), wordOf(one, partsOfOne(read)...),
		wordOfShotCloud(after, two), fmt.Sprintf("%q", output), wordOfShotCloud(last, three), wordOfBytes(outputs, three),
		wordOfBytes(f.journal(a.lines)), fmt.Sprintf("%q %d %t", lines, length, four), wordOfShotCloud(behind, five), fmt.Sprint(count),
	}, ";")
}

func wantDeskWords(t *testing.T, a deskArguments, want string) {
	t.Helper()
	if got := deskGiven().wordsOf(a); got != want {
		t.Errorf("the words of %s: got %s, want %s", shortened(a), got, want)
	}
}

// anyDesk has arguments some of which are not what they must be.
func (s source) anyDesk() deskArguments {
	a := deskArguments{c: s.anyCloud(s.Intn(5)), p: s.anyCloud(1).Particles[0], line: s.command(), lines: s.commands(s.Intn(6))}
	if s.Intn(10) == 0 {
		a.c = s.anyCloud(46 + s.Intn(4))
	}
	a.text = textOfCloud(a.c)
	if s.Intn(2) == 0 {
		a.text = textOfParticle(a.p)
	}
	a.script = scriptOf(s.commands(s.Intn(6))...)
	a.journal, _ = journalWanted(s.commands(s.Intn(6)))
	switch odd := oddNumbers(); s.Intn(10) {
	case 0:
		a.p = particleOf([6]float32{1, odd[s.Intn(len(odd))], 2, odd[s.Intn(len(odd))], 3, odd[s.Intn(len(odd))]})
	case 1:
		a.c.Magnet, a.c.Back = odd[s.Intn(len(odd))], odd[s.Intn(len(odd))]
	case 2:
		a.c.Grid.Wide = s.Int63n(20)
	case 3:
		a.lines = append(a.lines, "a\nb")
	}
	for _, text := range []*string{&a.text, &a.script, &a.journal} {
		*text = s.spoiltText(*text)
	}
	return a
}

// spoiltText may have another byte, or end too early or too late.
func (s source) spoiltText(text string) string {
	if text == "" {
		return text
	}
	i := s.Intn(len(text))
	switch s.Intn(9) {
	case 0:
		return text[:i]
	case 1:
		return text[:i] + string([]byte{byte(s.Intn(256))}) + text[i+1:]
	case 2:
		return text + text[i:]
	case 3:
		return text[:i] + text[i+1:]
	}
	return text
}

// The functions below tell what the document tells, in other ways.

func ifTold[T any](x T, ok bool) (T, bool) {
	if !ok {
		var none T
		return none, false
	}
	return x, true
}

func particleTextWanted(p impl.Particle) (string, bool) {
	c := impl.Cloud{Grid: impl.Grid{Wide: 4, High: 4}, Particles: []impl.Particle{p}}
	return ifTold(textOfParticle(p), validCloudWanted(c))
}

func cloudTextWanted(c impl.Cloud) (string, bool) {
	return ifTold(textOfCloud(c), validCloudWanted(c))
}

var eightDigits = regexp.MustCompile("[0-9a-f]{8}")

// readParticleWanted takes all numbers that it finds, and compares texts.
func readParticleWanted(t string) (impl.Particle, bool) {
	var numbers []float32
	for _, digits := range eightDigits.FindAllString(t, -1) {
		bits, _ := strconv.ParseUint(digits, 16, 32)
		numbers = append(numbers, fromBits(uint32(bits)))
	}
	if len(numbers) != 6 {
		return impl.Particle{}, false
	}
	p := particleOf([6]float32(numbers))
	text, ok := particleTextWanted(p)
	return ifTold(p, ok && text == t)
}

var cloudForm = regexp.MustCompile("^([0-9]{1,2}),([0-9]{1,2});([0-9a-f]{8}),([0-9a-f]{8});(.*)$")

func readCloudWanted(t string) (impl.Cloud, bool) {
	parts := cloudForm.FindStringSubmatch(t)
	if parts == nil {
		return impl.Cloud{}, false
	}
	var c impl.Cloud
	c.Grid.Wide, _ = strconv.ParseInt(parts[1], 10, 64)
	c.Grid.High, _ = strconv.ParseInt(parts[2], 10, 64)
	numbers := eightDigits.FindAllString(parts[0], -1)
	for i := range numbers {
		bits, _ := strconv.ParseUint(numbers[i], 16, 32)
		switch x := fromBits(uint32(bits)); i {
		case 0:
			c.Magnet = x
		case 1:
			c.Back = x
		}
	}
	if parts[5] != "none" {
		for _, one := range strings.Split(parts[5], "/") {
			p, _ := readParticleWanted(one)
			c.Particles = append(c.Particles, p)
		}
	}
	text, ok := cloudTextWanted(c)
	return ifTold(c, ok && text == t)
}

var decimalForm = regexp.MustCompile("^(0|-?[1-9][0-9]*)$")

func decimalWanted(word string) (int64, bool) {
	n, ok := new(big.Int).SetString(word, 10)
	if !ok || !decimalForm.MatchString(word) || n.CmpAbs(big.NewInt(1000000000000000)) > 0 {
		return 0, false
	}
	return n.Int64(), true
}

var numberForm = regexp.MustCompile("^[0-9a-f]{8}$")

// oneNumberWanted knows that not-a-numbers have one text.
func oneNumberWanted(word string) (float32, bool) {
	if !numberForm.MatchString(word) {
		return 0, false
	}
	bits, _ := strconv.ParseUint(word, 16, 32)
	x := fromBits(uint32(bits))
	return ifTold(x, x == x || word == "7fc00000")
}

// linePatterns are the forms of lines, each word of which may be anything.
var linePatterns = func() []*regexp.Regexp {
	var patterns []*regexp.Regexp
	for _, form := range lineForms() {
		patterns = append(patterns, regexp.MustCompile("^"+regexp.MustCompile(" .").ReplaceAllString(form, " ([^ ]*)")+"$"))
	}
	return patterns
}()

// lineArguments are what the words of a line tell.
type lineArguments struct {
	name, text string
	integers   []int64
	numbers    []float32
}

// commandTold tells whether a line has a form, and whether its words are what
// they must be.
func commandTold(line string) (a lineArguments, known, right bool) {
	for k, form := range lineForms() {
		words := linePatterns[k].FindStringSubmatch(line)
		if words == nil {
			continue
		}
		kinds := strings.Split(form, " ")
		a.name, right = kinds[0], true
		for i, word := range words[1:] {
			told := true
			switch kinds[i+1] {
			case "N", "K", "R":
				var n int64
				n, told = decimalWanted(word)
				a.integers = append(a.integers, n)
			case "X":
				var x float32
				x, told = oneNumberWanted(word)
				a.numbers = append(a.numbers, x)
			default:
				a.text = word
			}
			right = right && told
		}
		return a, true, right
	}
	return a, false, false
}

// commandWanted tells what a line makes and outputs by the functions that the
// document names.
func commandWanted(c impl.Cloud, line string) (impl.Cloud, string, bool) {
	if !validCloudWanted(c) {
		return impl.Cloud{}, "", false
	}
	a, known, right := commandTold(line)
	if !known {
		return c, "what", true
	}
	if !right {
		return c, "no", true
	}
	if output, ok := a.told(c); ok {
		return c, output, true
	}
	after, output, ok := a.changed(c)
	if !ok || !validCloudWanted(after) {
		return c, "no", true
	}
	return after, output, true
}

// told is what a line outputs that changes nothing.
func (a lineArguments) told(c impl.Cloud) (string, bool) {
	switch a.name {
	case "show":
		return textOfCloud(c), true
	case "kinetic":
		return hexTold(impl.KineticOf(c))
	case "total":
		return hexTold(impl.TotalCharge(c))
	case "momentum":
		return complexTold(impl.CloudMomentum(c))
	case "energy":
		return hexTold(impl.EnergyOf(c, a.integers[0]))
	case "force":
		forces, ok := impl.ForcesOf(c, a.integers[1])
		return complexTold(itemWanted(forces, a.integers[0], ok))
	case "charge":
		field, ok := impl.CloudCharge(c)
		return hexTold(itemWanted(field, a.integers[0], ok))
	case "order":
		return listTold(impl.OrderOf(c))
	case "cells":
		return listTold(impl.CellsOf(c))
	case "count":
		return fmt.Sprint(len(c.Particles)), true
	}
	return "", false
}

// changed is the cloud behind a line that changes it.
func (a lineArguments) changed(c impl.Cloud) (after impl.Cloud, output string, ok bool) {
	after, output, ok = c, "ok", true
	switch a.name {
	case "cloud":
		after, ok = readCloudWanted(a.text)
	case "grid":
		after = impl.Cloud{Grid: impl.Grid{Wide: a.integers[0], High: a.integers[1]}}
	case "streams":
		after, ok = impl.TwoStreams(c.Grid, a.integers[0], a.numbers[0])
	case "add":
		var p impl.Particle
		p, ok = readParticleWanted(a.text)
		after.Particles = append(slices.Clone(c.Particles), p)
	case "drop":
		after.Particles = nil
		for i, p := range c.Particles {
			if int64(i) != a.integers[0] {
				after.Particles = append(after.Particles, p)
			}
		}
		ok = len(after.Particles) < len(c.Particles)
	case "magnet":
		after.Magnet = a.numbers[0]
	case "back":
		after.Back = a.numbers[0]
	case "run":
		var energies []float32
		after, energies, ok = impl.RunCloud(c, a.numbers[0], a.integers[0], a.integers[1])
		output = listOrNone(energies)
	case "drift":
		after, ok = impl.DriftCloud(c, a.numbers[0])
	case "turn":
		after, ok = impl.TurnBack(c)
	case "sort":
		after, ok = impl.SortCloud(c)
	default:
		ok = false
	}
	return after, output, ok
}

// bitsTold are the digits of a number, the same ones for each not-a-number.
func bitsTold(x float32) string {
	if x != x {
		return "7fc00000"
	}
	return hexOf(x)
}

func hexTold(x float32, ok bool) (string, bool) {
	return ifTold(bitsTold(x), ok)
}

func complexTold(x complex64, ok bool) (string, bool) {
	return ifTold(bitsTold(real(x))+bitsTold(imag(x)), ok)
}

func listOrNone(list []float32) string {
	var words []string
	for _, x := range list {
		words = append(words, bitsTold(x))
	}
	if len(words) == 0 {
		return "none"
	}
	return strings.Join(words, ",")
}

func listTold(list []int64, ok bool) (string, bool) {
	if len(list) == 0 {
		return ifTold("none", ok)
	}
	return ifTold(strings.ReplaceAll(strings.Trim(fmt.Sprint(list), "[]"), " ", ","), ok)
}

func itemWanted[T any](list []T, index int64, ok bool) (item T, found bool) {
	for i, x := range list {
		if int64(i) == index {
			return ifTold(x, ok)
		}
	}
	return item, false
}

// scriptWanted takes lines one by one, each from its newline to the one before.
func scriptWanted(c impl.Cloud, script string) (impl.Cloud, string, bool) {
	if len(script) > scriptLimit || !validCloudWanted(c) {
		return impl.Cloud{}, "", false
	}
	outputs := ""
	for script != "" {
		end := strings.IndexByte(script, 10)
		if end < 0 {
			return impl.Cloud{}, "", false
		}
		after, output, _ := commandWanted(c, script[:end])
		c, script, outputs = after, script[end+1:], outputs+output+"\n"
	}
	return c, outputs, true
}

func journalWanted(lines []string) (string, bool) {
	journal := writtenLines(lines)
	return ifTold(journal, len(journal) <= scriptLimit && strings.Count(journal, "\n") == len(lines))
}

// writtenLines are a journal of any length, of any lines.
func writtenLines(lines []string) string {
	var journal strings.Builder
	check := int64(0)
	for _, line := range lines {
		for _, b := range []byte(line) {
			check = (check*719 + int64(b) + 53) % 65003
		}
		fmt.Fprintf(&journal, "%d %s\n", check, line)
	}
	return journal.String()
}

// recoverLinesWanted tries each number of lines, and takes the greatest one whose
// journal the text begins with.
func recoverLinesWanted(t string) ([]string, int64, bool) {
	if len(t) > scriptLimit {
		return nil, 0, false
	}
	var all, best []string
	length := 0
	for _, whole := range strings.SplitAfter(t, "\n") {
		_, line, _ := strings.Cut(strings.TrimRight(whole, "\n"), " ")
		all = append(all, line)
		if journal, ok := journalWanted(all); ok && strings.HasPrefix(t, journal) {
			best, length = slices.Clone(all), len(journal)
		}
	}
	return best, int64(length), true
}

func runJournalWanted(c impl.Cloud, t string) (impl.Cloud, int64, bool) {
	lines, _, ok := recoverLinesWanted(t)
	after, _, ran := scriptWanted(c, scriptOf(lines...))
	if !ok || !ran {
		return impl.Cloud{}, 0, false
	}
	return after, int64(len(lines)), true
}
