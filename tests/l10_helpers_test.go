package tests

import (
	"encoding/binary"
	"fmt"
	"math"
	"slices"
	"strings"
	"testing"

	"loop.example/g01226/impl"
)

// bytesOfCloud are the bytes that a cloud would have, also one that is not
// valid, with the bits of not-a-numbers as they are.
func bytesOfCloud(c impl.Cloud) string {
	data := []byte{'C', 'L', 'D', '1', byte(c.Grid.Wide), byte(c.Grid.High)}
	for i, x := range numbersOfCloud(c) {
		if i == 2 {
			data = append(data, byte(len(c.Particles)))
		}
		data = binary.LittleEndian.AppendUint32(data, math.Float32bits(x))
	}
	if len(c.Particles) == 0 {
		data = append(data, 0)
	}
	return string(data)
}

// checkOfText is the check number from 0 on.
func checkOfText(text string) int64 {
	check := int64(0)
	for i := 0; i < len(text); i++ {
		check = (check*719 + int64(text[i]) + 53) % 65003
	}
	return check
}

// framed puts parts of any bytes one behind another, each with the check number
// of all bytes before it.
func framed(parts ...string) string {
	whole := ""
	for _, part := range parts {
		whole += part
		whole += string(binary.LittleEndian.AppendUint16(nil, uint16(checkOfText(whole))))
	}
	return whole
}

func shotsOf(clouds ...impl.Cloud) impl.Shots {
	return impl.Shots{Clouds: clouds}
}

// frameEnds are the lengths of the bytes of the first cloud, the first two, and
// so on, with 0 before them.
func frameEnds(s impl.Shots) []int {
	ends := []int{0}
	for _, c := range s.Clouds {
		ends = append(ends, ends[len(ends)-1]+17+24*len(c.Particles))
	}
	return ends
}

func storedShots(t *testing.T, s impl.Shots) string {
	t.Helper()
	text, ok := impl.StoreShots(s)
	wantEqual(t, shortened("StoreShots", s, "succeeds"), ok, true)
	return text
}

func storedCloud(t *testing.T, c impl.Cloud) string {
	t.Helper()
	text, ok := impl.StoreCloud(c)
	wantEqual(t, shortened("StoreCloud", c, "succeeds"), ok, true)
	return text
}

func wantShots(t *testing.T, what string, got impl.Shots, ok bool, want impl.Shots) {
	t.Helper()
	wantEqual(t, what+" succeeds", ok, true)
	wantEqual(t, what+", how many clouds", len(got.Clouds), len(want.Clouds))
	if len(got.Clouds) == len(want.Clouds) {
		for i, c := range want.Clouds {
			wantCloud(t, fmt.Sprintf("%s, the cloud %d", what, i), got.Clouds[i], ok, c)
		}
	}
}

func wantRecovered(t *testing.T, what, text string, want impl.Shots, bytes int) {
	t.Helper()
	got, intact, ok := impl.RecoverShots(text)
	wantShots(t, what, got, ok, want)
	wantEqual(t, what+", how many bytes", intact, int64(bytes))
}

// shots have clouds of all kinds of numbers, all of them on one grid.
func (s source) shots(counts ...int) impl.Shots {
	var shots impl.Shots
	g := s.grid()
	for _, n := range counts {
		c := s.anyCloud(n)
		c.Grid = g
		shots.Clouds = append(shots.Clouds, c)
	}
	return shots
}

// shotArguments are all arguments of the functions of chapter 10.
type shotArguments struct {
	s, other           impl.Shots
	c, d               impl.Cloud
	p                  impl.Particle
	text               string
	list               []impl.Particle
	low, high          float32
	from, count, index int64
	bins, n            int64
}

// shotsWith takes two clouds, a particle and a list from shots.
func shotsWith(s, other impl.Shots, text string, low, high float32, from, count, index, bins, n int64) shotArguments {
	a := shotArguments{s: s, other: other, text: text, low: low, high: high, from: from, count: count, index: index, bins: bins, n: n}
	if len(s.Clouds) > 0 {
		a.c, a.d = s.Clouds[0], s.Clouds[len(s.Clouds)-1]
		a.list = a.c.Particles
	}
	if len(a.list) > 0 {
		a.p = a.list[0]
	}
	return a
}

// textOfShots has their bytes, some of which may be changed, or missing.
func (s source) textOfShots(shots impl.Shots) string {
	var parts []string
	for _, c := range shots.Clouds {
		parts = append(parts, bytesOfCloud(c))
	}
	text := []byte(framed(parts...))
	switch s.Intn(5) {
	case 0:
		text = text[:s.Intn(len(text)+1)]
	case 1:
		if len(text) > 0 {
			text[s.Intn(len(text))] ^= byte(1 + s.Intn(255))
		}
	case 2:
		text = append(text, 'C', byte(s.Intn(256)))
	case 3:
		if len(parts) > 0 {
			return parts[0]
		}
	}
	return string(text)
}

// anyShots has arguments some of which may be just beyond their limits.
func (s source) anyShots() shotArguments {
	var counts, others []int
	same := s.Intn(8)
	for range s.Intn(10) {
		n := s.Intn(4)
		if s.Intn(3) > 0 {
			n = same
		}
		if s.Intn(15) == 0 {
			n = 47 + s.Intn(3)
		}
		counts = append(counts, n)
	}
	for range s.Intn(6) {
		others = append(others, s.Intn(3))
	}
	one, other := s.shots(counts...), s.shots(others...)
	if len(counts) > 0 && s.Intn(8) == 0 {
		one.Clouds[s.Intn(len(counts))].Grid = s.grid()
	}
	if len(counts) > 0 && s.Intn(8) == 0 {
		other = impl.Shots{Clouds: slices.Clone(one.Clouds)}
	}
	a := shotsWith(one, other, s.textOfShots(one), s.number(), s.number(), s.Int63n(9)-1, s.Int63n(9)-1, s.Int63n(6)-1, s.Int63n(67)-1, s.Int63n(9)-1)
	if a.low > a.high && s.Intn(10) > 0 {
		a.low, a.high = a.high, a.low
	}
	switch odd := oddNumbers(); s.Intn(10) {
	case 0:
		a.low, a.high = odd[s.Intn(len(odd))], odd[s.Intn(len(odd))]
	case 1:
		a.list = s.particles(62 + s.Intn(5))
	case 2:
		a.p = particleOf([6]float32{1, odd[s.Intn(len(odd))], 2, odd[s.Intn(len(odd))], 3, odd[s.Intn(len(odd))]})
	case 3:
		if bytes := bytesOfCloud(impl.Cloud{Particles: []impl.Particle{a.p}}); len(bytes) > 15 {
			a.text = bytes[15:]
		}
	}
	return a
}

// shotFunctions are all functions of chapter 10.
type shotFunctions struct {
	valid         func(s impl.Shots) bool
	same          func(a, b impl.Shots) bool
	add           func(s impl.Shots, c impl.Cloud) (impl.Shots, bool)
	slice         func(s impl.Shots, from, count int64) (impl.Shots, bool)
	join          func(a, b impl.Shots) (impl.Shots, bool)
	particleBytes func(p impl.Particle) (string, bool)
	particleOf    func(s string) (impl.Particle, bool)
	storeCloud    func(c impl.Cloud) (string, bool)
	loadCloud     func(s string) (impl.Cloud, bool)
	storeShots    func(s impl.Shots) (string, bool)
	loadShots     func(s string) (impl.Shots, bool)
	rescue        func(s string) (impl.Shots, int64, bool)
	histogram     func(list []impl.Particle, low, high float32, bins int64) ([]int64, bool)
	moment        func(list []impl.Particle, n int64) (float32, bool)
	change        func(a, b impl.Cloud) (float32, bool)
	changes       func(s impl.Shots) ([]float32, bool)
	path          func(s impl.Shots, index int64) ([]complex64, bool)
	cells         func(c impl.Cloud) ([]int64, bool)
}

func shotsGiven() shotFunctions {
	return shotFunctions{
		impl.ValidShots, impl.SameShots, impl.AddShot, impl.SliceShots, impl.JoinShots, impl.ParticleBytes, impl.ParticleOf, impl.StoreCloud, impl.LoadCloud,
		impl.StoreShots, impl.LoadShots, impl.RecoverShots, impl.HistogramOf, impl.MomentOf, impl.ChangeOf, impl.ChangesOf, impl.PathOf, impl.MapOf,
	}
}

func shotsWanted() shotFunctions {
	return shotFunctions{
		validShotsWanted, sameShotsWanted, addShotWanted, sliceShotsWanted, joinShotsWanted, particleBytesWanted, particleOfBytesWanted, storeCloudWanted, loadCloudWanted,
		storeShotsWanted, loadShotsWanted, recoverShotsWanted, histogramWanted, momentWanted, changeWanted, changesWanted, pathWanted, mapWanted,
	}
}

// wordsOf tells what the functions return, in the order of the chapter.
func (f shotFunctions) wordsOf(a shotArguments) string {
	p, one := f.particleOf(a.text)
	rescued, intact, two := f.rescue(a.text)
	return strings.Join([]string{
		fmt.Sprint(f.valid(a.s), f.same(a.s, a.other)), wordOfShots(f.add(a.s, a.c)), wordOfShots(f.slice(a.s, a.from, a.count)), wordOfShots(f.join(a.s, a.other)),
		wordOfBytes(f.particleBytes(a.p)), wordOf(one, partsOfOne(p)...), wordOfBytes(f.storeCloud(a.c)), wordOfShotCloud(f.loadCloud(a.text)),
		wordOfBytes(f.storeShots(a.s)), wordOfShots(f.loadShots(a.text)), wordOfShots(rescued, two), fmt.Sprint(intact),
		wordOfIntegers(f.histogram(a.list, a.low, a.high, a.bins)), wordOfNumber(f.moment(a.list, a.n)), wordOfNumber(f.change(a.c, a.d)),
		wordOfNumbers(f.changes(a.s)), wordOfComplexes(f.path(a.s, a.index)), wordOfIntegers(f.cells(a.c)),
	}, ";")
}

func partsOfOne(p impl.Particle) []float32 {
	return append(partsOf(p.At, p.Speed), p.Charge, p.Mass)
}

// wordOfBytes is the length and the check number of bytes.
func wordOfBytes(s string, ok bool) string {
	switch {
	case ok:
		return fmt.Sprintf("%d#%d", len(s), checkOfText(s))
	case len(s) > 0:
		return "no, but bytes"
	}
	return "no"
}

func wordOfShotCloud(c impl.Cloud, ok bool) string {
	grid := ""
	if ok {
		grid = fmt.Sprintf("%dx%d:", c.Grid.Wide, c.Grid.High)
	}
	return grid + wordOfCloud(c.Grid, c, ok && c.Grid != impl.Grid{})
}

func wordOfShots(s impl.Shots, ok bool) string {
	if !ok && len(s.Clouds) > 0 {
		return "no, but clouds"
	}
	if !ok {
		return "no"
	}
	var words []string
	for _, c := range s.Clouds {
		words = append(words, wordOfShotCloud(c, true))
	}
	text := strings.Join(words, "/")
	if len(text) <= 60 {
		return text
	}
	return fmt.Sprintf("#%d,%d", checkOfText(text), len(words))
}

func wantShotWords(t *testing.T, a shotArguments, want string) {
	t.Helper()
	if got := shotsGiven().wordsOf(a); got != want {
		t.Errorf("the words of %s: got %s, want %s", shortened(a), got, want)
	}
}

// The functions below tell what the document tells, in other ways.

func validCloudWanted(c impl.Cloud) bool {
	if c.Grid.Wide < 4 || c.Grid.Wide > 16 || c.Grid.High < 4 || c.Grid.High > 16 || len(c.Particles) > 48 {
		return false
	}
	for _, p := range c.Particles {
		if !(p.Mass > 0) {
			return false
		}
	}
	return !slices.ContainsFunc(numbersOfCloud(c), func(x float32) bool { return !finite(x) })
}

func validShotsWanted(s impl.Shots) bool {
	for i, c := range s.Clouds {
		if i >= 8 || !validCloudWanted(c) {
			return false
		}
	}
	return true
}

// sameShotsWanted compares bytes, as two valid clouds with the same ones are the
// same.
func sameShotsWanted(a, b impl.Shots) bool {
	one, first := storeShotsWanted(a)
	two, second := storeShotsWanted(b)
	return first && second && one == two
}

func ifValid(s impl.Shots) (impl.Shots, bool) {
	if !validShotsWanted(s) {
		return impl.Shots{}, false
	}
	return s, true
}

func addShotWanted(s impl.Shots, c impl.Cloud) (impl.Shots, bool) {
	return ifValid(shotsOf(append(slices.Clone(s.Clouds), c)...))
}

func sliceShotsWanted(s impl.Shots, from, count int64) (impl.Shots, bool) {
	var part impl.Shots
	for i, c := range s.Clouds {
		if int64(i) >= from && int64(i)-from < count {
			part.Clouds = append(part.Clouds, c)
		}
	}
	if from < 0 || from > int64(len(s.Clouds)) || int64(len(part.Clouds)) != count || !validShotsWanted(s) {
		return impl.Shots{}, false
	}
	return part, true
}

func joinShotsWanted(a, b impl.Shots) (impl.Shots, bool) {
	return ifValid(shotsOf(append(slices.Clone(a.Clouds), b.Clouds...)...))
}

func particleBytesWanted(p impl.Particle) (string, bool) {
	c := impl.Cloud{Grid: impl.Grid{Wide: 4, High: 4}, Particles: []impl.Particle{p}}
	text, ok := storeCloudWanted(c)
	if !ok {
		return "", false
	}
	return text[15:], true
}

func particleOfBytesWanted(s string) (impl.Particle, bool) {
	c, ok := loadCloudWanted("CLD1\x04\x04\x00\x00\x00\x00\x00\x00\x00\x00\x01" + s)
	if !ok {
		return impl.Particle{}, false
	}
	return c.Particles[0], true
}

func storeCloudWanted(c impl.Cloud) (string, bool) {
	if !validCloudWanted(c) {
		return "", false
	}
	return bytesOfCloud(c), true
}

// loadCloudWanted reads numbers of all bytes that are there, and compares with
// the bytes that the cloud has then.
func loadCloudWanted(s string) (impl.Cloud, bool) {
	if len(s) < 15 {
		return impl.Cloud{}, false
	}
	data := []byte(s[6:14] + s[15:])
	var numbers []float32
	for len(data) >= 4 {
		numbers = append(numbers, math.Float32frombits(binary.LittleEndian.Uint32(data)))
		data = data[4:]
	}
	if len(numbers)%6 != 2 {
		return impl.Cloud{}, false
	}
	c := cloudAs(impl.Grid{Wide: int64(s[4]), High: int64(s[5])}, numbers)
	if !validCloudWanted(c) || bytesOfCloud(c) != s {
		return impl.Cloud{}, false
	}
	return c, true
}

func storeShotsWanted(s impl.Shots) (string, bool) {
	if !validShotsWanted(s) {
		return "", false
	}
	var parts []string
	for _, c := range s.Clouds {
		parts = append(parts, bytesOfCloud(c))
	}
	return framed(parts...), true
}

func loadShotsWanted(s string) (impl.Shots, bool) {
	shots, intact, _ := recoverShotsWanted(s)
	if intact != int64(len(s)) {
		return impl.Shots{}, false
	}
	return shots, true
}

// recoverShotsWanted tries whether the text begins with the bytes of one cloud
// more, whose length is told by how many particles there may be.
func recoverShotsWanted(s string) (impl.Shots, int64, bool) {
	var shots impl.Shots
	intact := 0
	for range 8 {
		for n := range 49 {
			end := intact + 15 + 24*n
			if end+2 > len(s) {
				break
			}
			c, ok := loadCloudWanted(s[intact:end])
			more := shotsOf(append(slices.Clone(shots.Clouds), c)...)
			if text, _ := storeShotsWanted(more); ok && text == s[:end+2] {
				shots, intact = more, end+2
				break
			}
		}
	}
	return shots, int64(intact), true
}

func histogramWanted(list []impl.Particle, low, high float32, bins int64) ([]int64, bool) {
	if !impl.AreParticles(list) || !finite(low) || !finite(high) || !(low < high) || bins < 1 || bins > 64 {
		return nil, false
	}
	width := over(minus(high, low), float32(bins))
	counts := make([]int64, bins)
	for bin := range counts {
		for _, p := range list {
			place := over(minus(real(p.Speed), low), width)
			if place >= float32(bin) && place < float32(bin+1) {
				counts[bin]++
			}
		}
	}
	return counts, true
}

func momentWanted(list []impl.Particle, n int64) (float32, bool) {
	if len(list) == 0 || !impl.AreParticles(list) || n < 0 || n > 6 {
		return 0, false
	}
	sum := 0.0
	for _, p := range list {
		x := float64(real(p.Speed))
		x2 := x * x
		x3 := x2 * x
		x4 := x3 * x
		x5 := x4 * x
		sum += []float64{1, x, x2, x3, x4, x5, x5 * x}[n]
	}
	return float32(sum / float64(len(list))), true
}

func changeWanted(a, b impl.Cloud) (float32, bool) {
	if !validCloudWanted(a) || !validCloudWanted(b) || a.Grid != b.Grid || len(a.Particles) != len(b.Particles) {
		return 0, false
	}
	longs := []float32{0}
	for i, p := range a.Particles {
		from, to := placeWanted(a.Grid, p.At), placeWanted(a.Grid, b.Particles[i].At)
		x, y := minus(real(to), real(from)), minus(imag(to), imag(from))
		longs = append(longs, longWanted(complex(shortest(x, a.Grid.Wide), shortest(y, a.Grid.High))))
	}
	return slices.Max(longs), true
}

func changesWanted(s impl.Shots) ([]float32, bool) {
	var changes []float32
	for i, c := range s.Clouds {
		change, ok := changeWanted(s.Clouds[max(i-1, 0)], c)
		if !ok || i >= 8 {
			return nil, false
		}
		changes = append(changes, change)
	}
	return changes[min(1, len(changes)):], true
}

func pathWanted(s impl.Shots, index int64) ([]complex64, bool) {
	var path []complex64
	for _, c := range s.Clouds {
		for i, p := range c.Particles {
			if int64(i) == index {
				path = append(path, p.At)
			}
		}
	}
	if len(path) != len(s.Clouds) || index < 0 || !validShotsWanted(s) {
		return nil, false
	}
	return path, true
}

func mapWanted(c impl.Cloud) ([]int64, bool) {
	if !validCloudWanted(c) {
		return nil, false
	}
	return countsWanted(c)
}
