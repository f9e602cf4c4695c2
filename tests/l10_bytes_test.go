package tests

import (
	"fmt"
	"math"
	"strings"
	"testing"

	"loop.example/g01226/impl"
)

// emptyBytes are those of a cloud 4 wide and 4 high with nothing else.
const emptyBytes = "CLD1\x04\x04\x00\x00\x00\x00\x00\x00\x00\x00\x00"

func wantParticleOf(t *testing.T, text string, want impl.Particle) {
	t.Helper()
	got, ok := impl.ParticleOf(text)
	wantEqual(t, fmt.Sprintf("ParticleOf(%q) succeeds", text), ok, true)
	wantParticles(t, fmt.Sprintf("ParticleOf(%q)", text), []impl.Particle{got}, []impl.Particle{want})
}

func wantNoParticleOf(t *testing.T, text string) {
	t.Helper()
	got, ok := impl.ParticleOf(text)
	wantFailures(t, []badCall{{fmt.Sprintf("ParticleOf(%.100q)", text), call1(got, ok)}})
}

func wantNoCloudOf(t *testing.T, text string) {
	t.Helper()
	got, ok := impl.LoadCloud(text)
	wantFailures(t, []badCall{{fmt.Sprintf("LoadCloud(%.100q)", text), call1(got, ok)}})
}

func wantNoShotsOf(t *testing.T, text string) {
	t.Helper()
	got, ok := impl.LoadShots(text)
	wantFailures(t, []badCall{{fmt.Sprintf("LoadShots(%.100q)", text), call1(got, ok)}})
}

// wantStored tells the bytes of a cloud, and that they are read back.
func wantStored(t *testing.T, c impl.Cloud, want string) {
	t.Helper()
	wantEqual(t, shortened("StoreCloud", c), storedCloud(t, c), want)
	back, ok := impl.LoadCloud(want)
	wantCloud(t, shortened("LoadCloud of ", c), back, ok, c)
}

func TestParticleBytes(t *testing.T) {
	for _, c := range []struct {
		p    impl.Particle
		want string
	}{
		{impl.Particle{At: 1, Mass: 2}, "\x00\x00\x80\x3f" + strings.Repeat("\x00", 16) + "\x00\x00\x00\x40"},
		{particleOf([6]float32{1, -1, 2, -2, 0.5, 4}), "\x00\x00\x80\x3f\x00\x00\x80\xbf\x00\x00\x00\x40\x00\x00\x00\xc0\x00\x00\x00\x3f\x00\x00\x80\x40"},
		{particleOf([6]float32{0, minusZero(), minusZero(), 0, minusZero(), fromBits(1)}), "\x00\x00\x00\x00\x00\x00\x00\x80\x00\x00\x00\x80\x00\x00\x00\x00\x00\x00\x00\x80\x01\x00\x00\x00"},
		{
			particleOf([6]float32{fromBits(0x01020304), fromBits(0x11121314), fromBits(0x21222324), fromBits(0x31323334), fromBits(0x81828384), fromBits(0x41424344)}),
			"\x04\x03\x02\x01\x14\x13\x12\x11\x24\x23\x22\x21\x34\x33\x32\x31\x84\x83\x82\x81\x44\x43\x42\x41",
		},
		{
			particleOf([6]float32{math.MaxFloat32, -math.MaxFloat32, fromBits(0x7fffff), fromBits(0x807fffff), fromBits(0x80000001), math.MaxFloat32}),
			"\xff\xff\x7f\x7f\xff\xff\x7f\xff\xff\xff\x7f\x00\xff\xff\x7f\x80\x01\x00\x00\x80\xff\xff\x7f\x7f",
		},
	} {
		got, ok := impl.ParticleBytes(c.p)
		wantEqual(t, fmt.Sprint("ParticleBytes ", c.p), got, c.want)
		wantEqual(t, fmt.Sprint("ParticleBytes succeeds for ", c.p), ok, true)
		wantParticleOf(t, c.want, c.p)
	}
}

func TestParticlesAreReadBack(t *testing.T) {
	s := newSource()
	for range 3000 {
		p := s.wildCloud(1).Particles[0]
		text, ok := impl.ParticleBytes(p)
		wantEqual(t, fmt.Sprint("bytes of ", p), len(text), 24)
		wantEqual(t, "ParticleBytes succeeds", ok, true)
		wantParticleOf(t, text, p)
	}
	for _, p := range invalidParticles() {
		text, ok := impl.ParticleBytes(p)
		wantEqual(t, fmt.Sprint("ParticleBytes of the invalid ", p), text, "")
		wantEqual(t, fmt.Sprint("ParticleBytes of the invalid ", p, " succeeds"), ok, false)
	}
}

// Any number may stand in the bytes of a particle, but not all are those of a
// valid one.
func TestParticleOfTakesNumbers(t *testing.T) {
	numbers := append(oddNumbers(), fromBits(0xff800001), fromBits(0x7fffffff), fromBits(0xffffffff), fromBits(0x7fc00000))
	for i := range 6 {
		for _, x := range numbers {
			parts := [6]float32{1, 2, 3, 4, 5, 6}
			parts[i] = x
			p := particleOf(parts)
			text := bytesOfCloud(impl.Cloud{Particles: []impl.Particle{p}})[15:]
			if finite(x) && (i < 5 || x > 0) {
				wantParticleOf(t, text, p)
			} else {
				wantNoParticleOf(t, text)
			}
		}
	}
}

func TestParticleOfNeedsAllBytes(t *testing.T) {
	text, _ := impl.ParticleBytes(ordinaryParticle())
	for n := range 24 {
		wantNoParticleOf(t, text[:n])
		wantNoParticleOf(t, text[24-n:])
	}
	for _, more := range []string{"\x00", "x", "\n", text, "CLD1", strings.Repeat("\x00", 1000)} {
		wantNoParticleOf(t, text+more)
		wantNoParticleOf(t, more+text)
	}
}

func TestStoreCloud(t *testing.T) {
	wantStored(t, impl.Cloud{Grid: impl.Grid{Wide: 4, High: 4}}, emptyBytes)
	p := particleOf([6]float32{1, -1, 2, -2, 0.5, 4})
	const bytes = "\x00\x00\x80\x3f\x00\x00\x80\xbf\x00\x00\x00\x40\x00\x00\x00\xc0\x00\x00\x00\x3f\x00\x00\x80\x40"
	const head = "CLD1\x10\x05\x00\x00\x80\xbf\x00\x00\x20\x40"
	for _, n := range []int{0, 1, 2, 10, 47, 48} {
		c := impl.Cloud{Grid: impl.Grid{Wide: 16, High: 5}, Particles: repeated(p, n), Magnet: -1, Back: 2.5}
		wantStored(t, c, head+string(rune(n))+strings.Repeat(bytes, n))
	}
	q := ordinaryParticle()
	other, _ := impl.ParticleBytes(q)
	two := impl.Cloud{Grid: impl.Grid{Wide: 16, High: 5}, Particles: []impl.Particle{p, q}, Magnet: -1, Back: 2.5}
	wantStored(t, two, head+"\x02"+bytes+other)
}

// Magnet and Back may be any finite numbers, of both signs.
func TestStoredMagnetsAndBacks(t *testing.T) {
	words := map[float32]string{
		math.MaxFloat32: "\xff\xff\x7f\x7f", -math.MaxFloat32: "\xff\xff\x7f\xff", fromBits(1): "\x01\x00\x00\x00", -fromBits(1): "\x01\x00\x00\x80",
		fromBits(0x12345678): "\x78\x56\x34\x12", -fromBits(0x12345678): "\x78\x56\x34\x92", 0: "\x00\x00\x00\x00",
	}
	for magnet, one := range words {
		for back, two := range words {
			c := impl.Cloud{Grid: impl.Grid{Wide: 4, High: 16}, Magnet: magnet, Back: back}
			wantStored(t, c, "CLD1\x04\x10"+one+two+"\x00")
		}
	}
	for _, magnet := range oddNumbers() {
		for _, back := range oddNumbers() {
			c := impl.Cloud{Grid: impl.Grid{Wide: 4, High: 16}, Magnet: magnet, Back: back}
			if finite(magnet) && finite(back) {
				wantStored(t, c, bytesOfCloud(c))
			} else {
				wantNoCloudOf(t, bytesOfCloud(c))
				wantNoShotsOf(t, framed(bytesOfCloud(c)))
			}
		}
	}
}

func TestStoredGrids(t *testing.T) {
	for wide := range 256 {
		for high := range 256 {
			g := impl.Grid{Wide: int64(wide), High: int64(high)}
			bytes := string([]byte{'C', 'L', 'D', '1', byte(wide), byte(high)}) + emptyBytes[6:]
			if impl.ValidGrid(g) {
				wantStored(t, impl.Cloud{Grid: g}, bytes)
			} else {
				wantNoCloudOf(t, bytes)
			}
		}
	}
}

func TestCloudsAreReadBack(t *testing.T) {
	s := newSource()
	for range 20 {
		for n := range 49 {
			c := s.wildCloud(n)
			text := storedCloud(t, c)
			wantEqual(t, fmt.Sprintf("bytes of %d particles", n), len(text), 15+24*n)
			back, ok := impl.LoadCloud(text)
			wantCloud(t, fmt.Sprintf("LoadCloud of %d particles", n), back, ok, c)
			wantEqual(t, "SameCloud", impl.SameCloud(back, c), true)
			wantEqual(t, "bytes of the cloud that is read", storedCloud(t, back), text)
		}
	}
}

func TestLoadCloudNeedsAllBytes(t *testing.T) {
	s := newSource()
	for _, n := range []int{0, 1, 2, 48} {
		text := storedCloud(t, s.gentleCloud(n))
		for cut := range text {
			wantNoCloudOf(t, text[:cut])
			wantNoCloudOf(t, text[len(text)-cut:])
		}
		for _, more := range []string{"\x00", "x", "\x00\x00", text, emptyBytes, strings.Repeat("\x00", 24), text[len(text)-15:]} {
			wantNoCloudOf(t, text+more)
			wantNoCloudOf(t, more+text)
		}
		wantNoCloudOf(t, framed(text))
	}
}

// One byte that is another one makes another cloud, or none.
func TestLoadCloudTellsEachByte(t *testing.T) {
	s := newSource()
	for _, n := range []int{0, 1, 3} {
		text := storedCloud(t, s.gentleCloud(n))
		for i := range text {
			for change := 1; change < 256; change++ {
				other := []byte(text)
				other[i] ^= byte(change)
				wanted, ok := loadCloudWanted(string(other))
				if !ok || i < 4 || i == 14 {
					wantNoCloudOf(t, string(other))
					continue
				}
				got, ok := impl.LoadCloud(string(other))
				wantCloud(t, fmt.Sprintf("LoadCloud with another byte at %d", i), got, ok, wanted)
			}
		}
	}
}

// The number of particles must be that of those that are there.
func TestLoadCloudCountsParticles(t *testing.T) {
	bytes := strings.Repeat(bytesOfCloud(cloudIn(ordinaryParticle()))[15:], 64)
	for there := range 64 {
		for said := range 256 {
			text := emptyBytes[:14] + string([]byte{byte(said)}) + bytes[:24*there]
			if said == there && there <= 48 {
				got, ok := impl.LoadCloud(text)
				wantCloud(t, fmt.Sprintf("LoadCloud of %d", there), got, ok, impl.Cloud{Grid: impl.Grid{Wide: 4, High: 4}, Particles: repeated(ordinaryParticle(), there)})
				continue
			}
			wantNoCloudOf(t, text)
		}
	}
	full := strings.Repeat(bytes[:24], 255)
	wantNoCloudOf(t, emptyBytes[:14]+"\xff"+full)
	wantNoCloudOf(t, emptyBytes[:14]+"\x00"+full+bytes[:24])
}

func TestOtherMarks(t *testing.T) {
	for _, mark := range []string{"CLD0", "CLD2", "cld1", "CLd1", "1DLC", "\x00\x00\x00\x00", "SHT1", "CLD ", " CLD"} {
		wantNoCloudOf(t, mark+emptyBytes[4:])
		wantNoShotsOf(t, framed(mark+emptyBytes[4:]))
		wantRecovered(t, "RecoverShots with the mark "+mark, framed(emptyBytes, mark+emptyBytes[4:]), shotsOf(impl.Cloud{Grid: impl.Grid{Wide: 4, High: 4}}), 17)
	}
}

// Each check number is that of all bytes before it, also those of other frames.
func TestStoreShots(t *testing.T) {
	s := newSource()
	wantEqual(t, "bytes of no shots", storedShots(t, impl.Shots{}), "")
	for n := 1; n <= 8; n++ {
		shots := s.shots(repeated(n%3*n, n)...)
		text, rest := storedShots(t, shots), 0
		for _, c := range shots.Clouds {
			own := storedCloud(t, c)
			wantEqual(t, "the bytes of a cloud in its frame", text[rest:rest+len(own)], own)
			rest += len(own)
			check, _ := impl.CheckOf(0, text[:rest])
			wantEqual(t, "the least byte of a check number", int64(text[rest]), check%256)
			wantEqual(t, "the other byte of a check number", int64(text[rest+1]), check/256)
			rest += 2
		}
		wantEqual(t, "bytes in all", rest, len(text))
	}
	for _, shots := range invalidShots() {
		text, ok := impl.StoreShots(shots)
		wantEqual(t, shortened("StoreShots of invalid ones", shots), text, "")
		wantEqual(t, shortened("StoreShots of invalid ones succeeds", shots), ok, false)
	}
}

func TestShotsAreReadBack(t *testing.T) {
	s := newSource()
	for range 300 {
		var shots impl.Shots
		for range s.Intn(9) {
			shots.Clouds = append(shots.Clouds, s.wildCloud(s.Intn(49)))
		}
		text := storedShots(t, shots)
		back, ok := impl.LoadShots(text)
		wantShots(t, "LoadShots", back, ok, shots)
		wantEqual(t, "SameShots", impl.SameShots(back, shots), true)
		wantRecovered(t, "RecoverShots", text, shots, len(text))
		wantEqual(t, "bytes of the shots that are read", storedShots(t, back), text)
	}
}
