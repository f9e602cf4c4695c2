package tests

import (
	"fmt"
	"math"
	"slices"
	"strings"
	"testing"

	"loop.example/g01226/impl"
)

// wholeBefore are the clouds whose frames end within some bytes, and where they end.
func wholeBefore(s impl.Shots, bytes int) (impl.Shots, int) {
	ends := frameEnds(s)
	n := 0
	for n+1 < len(ends) && ends[n+1] <= bytes {
		n++
	}
	return shotsOf(s.Clouds[:n]...), ends[n]
}

// recoveries are shots with all kinds of clouds.
func recoveries() []impl.Shots {
	s := newSource()
	return []impl.Shots{{}, s.shots(0), s.shots(1), s.shots(0, 0, 0), s.shots(2, 0, 1), s.shots(1, 2, 3), s.shots(0, 1, 0, 2, 0, 0, 1, 0), s.shots(48, 3), s.shots(5, 48)}
}

// What is cut loses the cloud that is cut, and those behind, and none before.
func TestShotsThatAreCut(t *testing.T) {
	for _, shots := range recoveries() {
		text := storedShots(t, shots)
		for cut := range len(text) + 1 {
			what := fmt.Sprintf("%d clouds cut behind %d bytes", len(shots.Clouds), cut)
			want, end := wholeBefore(shots, cut)
			wantRecovered(t, what, text[:cut], want, end)
			if end < cut {
				wantNoShotsOf(t, text[:cut])
				continue
			}
			got, ok := impl.LoadShots(text[:cut])
			wantShots(t, what, got, ok, want)
		}
	}
}

// What begins later is no beginning.
func TestShotsWithoutTheirBeginning(t *testing.T) {
	for _, shots := range recoveries() {
		text := storedShots(t, shots)
		for cut := 1; cut < len(text); cut++ {
			wantRecovered(t, fmt.Sprintf("shots without %d bytes", cut), text[cut:], impl.Shots{}, 0)
			wantNoShotsOf(t, text[cut:])
		}
	}
}

// One byte that is another one costs its own cloud, and those behind.
func TestShotsWithAnotherByte(t *testing.T) {
	s := newSource()
	for _, shots := range recoveries()[:7] {
		text := storedShots(t, shots)
		for i := range text {
			for range 12 {
				other := []byte(text)
				other[i] ^= byte(1 + s.Intn(255))
				want, end := wholeBefore(shots, i)
				what := fmt.Sprintf("shots with another byte at %d", i)
				wantRecovered(t, what, string(other), want, end)
				wantNoShotsOf(t, string(other))
			}
		}
	}
}

// Each other value of a check number is wrong.
func TestOtherCheckNumbers(t *testing.T) {
	c := impl.Cloud{Grid: impl.Grid{Wide: 4, High: 4}}
	text := framed(emptyBytes)
	for n := range 65536 {
		other := emptyBytes + string([]byte{byte(n), byte(n / 256)})
		if other == text {
			wantRecovered(t, "the right check number", other, shotsOf(c), 17)
			continue
		}
		wantRecovered(t, fmt.Sprint("the check number ", n), other, impl.Shots{}, 0)
	}
}

// A check number that begins at each frame, or with another number, is wrong.
func TestChecksOfFramesGoOn(t *testing.T) {
	s := newSource()
	one, two := s.gentleCloud(1), s.gentleCloud(2)
	alone := framed(bytesOfCloud(one)) + framed(bytesOfCloud(two))
	wantNoShotsOf(t, alone)
	wantRecovered(t, "frames of two shots", alone, shotsOf(one), 41)
	text := framed(bytesOfCloud(one), bytesOfCloud(two))
	moved := text[41:] + text[:41]
	wantNoShotsOf(t, moved)
	wantRecovered(t, "frames in another order", moved, impl.Shots{}, 0)
	wantRecovered(t, "a frame twice", text+text[41:], shotsOf(one, two), len(text))
	wantRecovered(t, "a frame left out", text[41:], impl.Shots{}, 0)
	twice := framed(bytesOfCloud(one), bytesOfCloud(one), bytesOfCloud(one))
	wantRecovered(t, "a cloud three times", twice, shotsOf(one, one, one), len(twice))
	for start := int64(1); start < 65003; start += 97 {
		check, _ := impl.CheckOf(start, bytesOfCloud(one))
		other := bytesOfCloud(one) + string([]byte{byte(check), byte(check / 256)})
		wantRecovered(t, "a check number that begins elsewhere", other, impl.Shots{}, 0)
	}
}

// Check numbers of many magnitudes have two bytes each.
func TestCheckNumbersOfManyMagnitudes(t *testing.T) {
	least, greatest := int64(math.MaxInt64), int64(0)
	for n := range 3000 {
		c := impl.Cloud{Grid: impl.Grid{Wide: 4, High: 4}, Back: float32(n)}
		text := bytesOfCloud(c)
		check := checkOfText(text)
		least, greatest = min(least, check), max(greatest, check)
		whole := storedShots(t, shotsOf(c))
		wantEqual(t, fmt.Sprint("shots with the check number ", check), whole, text+string([]byte{byte(check % 256), byte(check / 256)}))
		got, ok := impl.LoadShots(whole)
		wantShots(t, "LoadShots", got, ok, shotsOf(c))
	}
	wantEqual(t, "whether there are small and great check numbers", least < 256 && greatest > 64768, true)
}

func TestBytesBehindShots(t *testing.T) {
	for _, shots := range recoveries() {
		text := storedShots(t, shots)
		for _, more := range []string{"\x00", "x", "\n", "C", "CLD", "CLD1", emptyBytes, emptyBytes[:14], emptyBytes + "\x00", emptyBytes + "\x00\x00", "\x00\x00", strings.Repeat("\x00", 5000), "x" + text} {
			wantNoShotsOf(t, text+more)
			wantRecovered(t, fmt.Sprintf("%d clouds and %.20q", len(shots.Clouds), more), text+more, shots, len(text))
		}
	}
}

// Whole frames behind those of eight clouds are not read.
func TestMoreFramesThanShotsMayHave(t *testing.T) {
	s := newSource()
	for _, n := range []int{8, 9, 10, 16, 100} {
		var parts []string
		var shots impl.Shots
		for k := range n {
			c := s.gentleCloud(k % 4)
			shots.Clouds, parts = append(shots.Clouds, c), append(parts, bytesOfCloud(c))
		}
		text := framed(parts...)
		eight := shotsOf(shots.Clouds[:8]...)
		wantRecovered(t, fmt.Sprintf("RecoverShots of %d frames", n), text, eight, frameEnds(eight)[8])
		if n > 8 {
			wantNoShotsOf(t, text)
			continue
		}
		got, ok := impl.LoadShots(text)
		wantShots(t, "LoadShots of 8 frames", got, ok, eight)
	}
}

func TestEmptyString(t *testing.T) {
	got, ok := impl.LoadShots("")
	wantShots(t, "LoadShots of nothing", got, ok, impl.Shots{})
	wantRecovered(t, "RecoverShots of nothing", "", impl.Shots{}, 0)
	wantNoCloudOf(t, "")
	wantNoParticleOf(t, "")
}

func TestTextsThatAreNoShots(t *testing.T) {
	for _, text := range []string{"x", "\x00", "none", "CLD1", emptyBytes, strings.Repeat("CLD1", 100), strings.Repeat("\xff", 300), strings.Repeat("\x00", 17), "\xc3\x28" + emptyBytes} {
		wantNoShotsOf(t, text)
		wantRecovered(t, fmt.Sprintf("RecoverShots(%.40q)", text), text, impl.Shots{}, 0)
	}
}

// Frames whose check numbers are right may hold what no valid cloud has.
func TestWholeFramesThatAreNotValid(t *testing.T) {
	good := ordinaryCloud(impl.Grid{Wide: 5, High: 4}, 2)
	var bad []string
	for _, c := range invalidClouds() {
		bytes := bytesOfCloud(c)
		if _, ok := loadCloudWanted(bytes); !ok {
			bad = append(bad, bytes)
		}
	}
	for _, x := range []float32{fromBits(0x7f800001), fromBits(0x7fc00000), fromBits(0xffffffff), infinity(), -infinity()} {
		for i := range 6 {
			parts := [6]float32{1, 2, 3, 4, 5, 6}
			parts[i] = x
			bad = append(bad, bytesOfCloud(withList(good, []impl.Particle{particleOf(parts)})))
		}
	}
	bytes := bytesOfCloud(good)
	for said := range 256 {
		if said != 2 {
			bad = append(bad, bytes[:14]+string([]byte{byte(said)})+bytes[15:])
		}
	}
	wantEqual(t, "whether there are many kinds of them", len(bad) > 300, true)
	for _, text := range bad {
		for _, n := range []int{0, 1, 3} {
			before := repeated(bytes, n)
			whole := framed(append(slices.Clone(before), text, bytes)...)
			want := shotsOf(repeated(good, n)...)
			wantRecovered(t, fmt.Sprintf("RecoverShots of %d clouds and %.80q", n, text), whole, want, n*65)
			wantNoShotsOf(t, whole)
			wantNoShotsOf(t, framed(append(before, text)...))
		}
	}
}

// The numbers of the bytes may be zeros of both signs, and subnormal.
func TestRecoveredNumbers(t *testing.T) {
	numbers := []float32{0, minusZero(), fromBits(1), -fromBits(1), fromBits(0x7fffff), -fromBits(0x7fffff), math.MaxFloat32, -math.MaxFloat32}
	for i, x := range numbers {
		for k, y := range numbers {
			c := cloudAs(impl.Grid{Wide: 4, High: 9}, []float32{x, y, y, x, x, y, numbers[(i+k)%8], above(0), x, x, y, y, x, fromBits(0x7fffff)})
			text := framed(bytesOfCloud(c), bytesOfCloud(c))
			wantEqual(t, "StoreShots", storedShots(t, shotsOf(c, c)), text)
			wantRecovered(t, fmt.Sprint("RecoverShots with ", x, y), text, shotsOf(c, c), len(text))
			got, ok := impl.LoadShots(text)
			wantShots(t, fmt.Sprint("LoadShots with ", x, y), got, ok, shotsOf(c, c))
		}
	}
}

// What is recovered is what its bytes are those of.
func TestRecoveredShotsAreStoredAgain(t *testing.T) {
	s := newSource()
	for range 2000 {
		text := s.textOfShots(s.shots(repeated(s.Intn(3), s.Intn(9))...))
		got, intact, ok := impl.RecoverShots(text)
		wantEqual(t, "RecoverShots succeeds", ok, true)
		wantEqual(t, "bytes of what is recovered", storedShots(t, got), text[:intact])
		again, ok := impl.LoadShots(text[:intact])
		wantShots(t, "LoadShots of what is recovered", again, ok, got)
	}
}
