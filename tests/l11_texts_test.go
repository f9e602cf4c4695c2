package tests

import (
	"fmt"
	"math"
	"strings"
	"testing"

	"loop.example/g01226/impl"
)

// unitText is the text of a particle of which all numbers are 1, but the
// imaginary parts, which are 0.
const unitText = "3f80000000000000,3f80000000000000:3f800000,3f800000"

const emptyText = "4,4;00000000,00000000;none"

func wantReadCloud(t *testing.T, text string, want impl.Cloud) {
	t.Helper()
	got, ok := impl.ReadCloud(text)
	wantCloud(t, fmt.Sprintf("ReadCloud(%.200q)", text), got, ok, want)
}

func wantReadParticle(t *testing.T, text string, want impl.Particle) {
	t.Helper()
	got, ok := impl.ReadParticle(text)
	wantEqual(t, fmt.Sprintf("ReadParticle(%q) succeeds", text), ok, true)
	wantParticles(t, fmt.Sprintf("ReadParticle(%q)", text), []impl.Particle{got}, []impl.Particle{want})
}

func wantNoCloudText(t *testing.T, text string) {
	t.Helper()
	wantFailures(t, []badCall{{fmt.Sprintf("ReadCloud(%.200q)", text), call1(impl.ReadCloud(text))}})
}

func wantNoParticleText(t *testing.T, text string) {
	t.Helper()
	wantFailures(t, []badCall{{fmt.Sprintf("ReadParticle(%.200q)", text), call1(impl.ReadParticle(text))}})
}

// wantCloudText tells the text of a cloud, and that it is read back.
func wantCloudText(t *testing.T, c impl.Cloud, want string) {
	t.Helper()
	got, ok := impl.CloudText(c)
	wantEqual(t, shortened("CloudText of ", c), got, want)
	wantEqual(t, shortened("CloudText succeeds for ", c), ok, true)
	wantReadCloud(t, want, c)
}

func wantParticleText(t *testing.T, p impl.Particle, want string) {
	t.Helper()
	got, ok := impl.ParticleText(p)
	wantEqual(t, fmt.Sprint("ParticleText of ", p), got, want)
	wantEqual(t, fmt.Sprint("ParticleText succeeds for ", p), ok, true)
	wantReadParticle(t, want, p)
}

func TestParticleText(t *testing.T) {
	wantParticleText(t, impl.Particle{At: 1, Speed: 1, Charge: 1, Mass: 1}, unitText)
	wantParticleText(t, particleOf([6]float32{1, 1, 1, 0, 2, 1}), "3f8000003f800000,3f80000000000000:40000000,3f800000")
	wantParticleText(t, particleOf([6]float32{1, -1, 2, -2, 0.5, 4}), "3f800000bf800000,40000000c0000000:3f000000,40800000")
	zero, least := float32(0), fromBits(1)
	wantParticleText(t, particleOf([6]float32{zero, minusZero(), minusZero(), zero, minusZero(), least}), "0000000080000000,8000000000000000:80000000,00000001")
	wantParticleText(t, particleOf([6]float32{least, -least, fromBits(0x7fffff), -fromBits(0x7fffff), zero, fromBits(0x7fffff)}), "0000000180000001,007fffff807fffff:00000000,007fffff")
	most := float32(math.MaxFloat32)
	wantParticleText(t, particleOf([6]float32{most, -most, -most, most, -most, most}), "7f7fffffff7fffff,ff7fffff7f7fffff:ff7fffff,7f7fffff")
	wantParticleText(t, particleOf([6]float32{fromBits(0x01020304), fromBits(0x1a2b3c4d), fromBits(0x21222324), fromBits(0x5e6f7f8f), fromBits(0xa1b2c3d4), fromBits(0x41424344)}), "010203041a2b3c4d,212223245e6f7f8f:a1b2c3d4,41424344")
}

func TestParticleTextsAreReadBack(t *testing.T) {
	s := newSource()
	for range 3000 {
		p := s.wildCloud(1).Particles[0]
		wantParticleText(t, p, textOfParticle(p))
	}
	for _, p := range invalidParticles() {
		wantFailures(t, []badCall{{fmt.Sprint("ParticleText of ", p), call1(impl.ParticleText(p))}})
		wantNoParticleText(t, textOfParticle(p))
	}
}

// The six numbers of a text may be any, but not all are those of a valid
// particle; not-a-numbers, too, have digits.
func TestNumbersOfParticleTexts(t *testing.T) {
	numbers := append(oddNumbers(), fromBits(0xff800001), fromBits(0x7fffffff), fromBits(0xffffffff))
	for i := range 6 {
		for _, x := range numbers {
			parts := [6]float32{1, 2, 3, 4, 5, 6}
			parts[i] = x
			p := particleOf(parts)
			if finite(x) && (i < 5 || x > 0) {
				wantParticleText(t, p, textOfParticle(p))
			} else {
				wantNoParticleText(t, textOfParticle(p))
			}
		}
	}
}

// wrongParticles are texts near those of particles.
func wrongParticles() []string {
	const at, numbers = "3f80000000000000", "3f800000"
	return []string{
		"", "none", ":", ",:,", "none:none", at + "," + at + ":none", "none:" + numbers + "," + numbers,
		at + ":" + numbers + "," + numbers, at + "," + at + "," + at + ":" + numbers + "," + numbers, at + "," + at + ":" + numbers, at + "," + at + ":" + numbers + "," + numbers + "," + numbers,
		at + "," + at, numbers + "," + numbers, at + "," + at + ":", ":" + numbers + "," + numbers, at + "," + at + "::" + numbers + "," + numbers,
		unitText + ":", ":" + unitText, unitText + ":" + numbers, unitText + "," + numbers, at + "," + unitText, unitText + ":" + unitText, unitText + "/", unitText + "/" + unitText, unitText + ";",
		numbers + "," + numbers + ":" + numbers + "," + numbers, at + "," + at + ":" + at + "," + at, numbers + "," + numbers + ":" + at + "," + at,
		strings.Replace(unitText, ",", "", 1), strings.Replace(unitText, ",", ",,", 1), strings.Replace(unitText, ",", ":", 1), strings.Replace(unitText, ":", ",", 1), strings.Replace(unitText, ":", ";", 1),
		strings.ToUpper(unitText), "3F" + unitText[2:], "0x" + unitText, unitText[1:], "0" + unitText, unitText + "0", unitText[:len(unitText)-1], "+" + unitText[1:], "-" + unitText[1:],
		" " + unitText, unitText + " ", "\n" + unitText, unitText + "\n", unitText + "\r", unitText + "\x00", strings.Replace(unitText, ",", ", ", 1), strings.Replace(unitText, ":", " :", 1), strings.Replace(unitText, ",", "_", 1),
		strings.Repeat(":", 100000), strings.Repeat(",", 100000), strings.Repeat(unitText+":", 1000), strings.Repeat("0", 100000) + unitText,
	}
}

func TestWrongParticleTexts(t *testing.T) {
	for _, text := range wrongParticles() {
		wantNoParticleText(t, text)
		if head := strings.TrimSuffix(emptyText, "none"); !strings.Contains(text, "/") {
			wantNoCloudText(t, head+text+"/"+unitText)
			wantNoCloudText(t, head+unitText+"/"+text)
			wantNoCloudText(t, head+unitText+"/"+text+"/"+unitText)
		}
	}
	for n := range unitText {
		wantNoParticleText(t, unitText[:n])
		wantNoParticleText(t, unitText[len(unitText)-n:])
	}
}

// One byte that is another one makes another particle, or none.
func TestParticleTextsTellEachByte(t *testing.T) {
	for _, text := range []string{unitText, textOfParticle(ordinaryParticle())} {
		for i := range text {
			for b := range 256 {
				other := text[:i] + string([]byte{byte(b)}) + text[i+1:]
				if p, ok := readParticleWanted(other); ok {
					wantParticleText(t, p, other)
				} else {
					wantNoParticleText(t, other)
				}
			}
		}
	}
}

func TestCloudText(t *testing.T) {
	wantCloudText(t, impl.Cloud{Grid: impl.Grid{Wide: 4, High: 4}}, emptyText)
	wantCloudText(t, impl.Cloud{Grid: impl.Grid{Wide: 16, High: 5}, Magnet: -1, Back: 2.5}, "16,5;bf800000,40200000;none")
	wantCloudText(t, impl.Cloud{Grid: impl.Grid{Wide: 9, High: 10}, Magnet: minusZero(), Back: fromBits(1)}, "9,10;80000000,00000001;none")
	p := particleOf([6]float32{1, 0, 1, 0, 1, 1})
	for _, n := range []int{1, 2, 10, 47, 48} {
		c := impl.Cloud{Grid: impl.Grid{Wide: 4, High: 16}, Particles: repeated(p, n), Magnet: 0.5, Back: -fromBits(0x7fffff)}
		wantCloudText(t, c, "4,16;3f000000,807fffff;"+strings.Repeat(unitText+"/", n-1)+unitText)
	}
	q := particleOf([6]float32{1, -1, 2, -2, 0.5, 4})
	two := impl.Cloud{Grid: impl.Grid{Wide: 4, High: 4}, Particles: []impl.Particle{p, q}}
	wantCloudText(t, two, "4,4;00000000,00000000;"+unitText+"/3f800000bf800000,40000000c0000000:3f000000,40800000")
}

func TestTextsOfGrids(t *testing.T) {
	for wide := int64(-1); wide <= 20; wide++ {
		for high := int64(-1); high <= 20; high++ {
			c := impl.Cloud{Grid: impl.Grid{Wide: wide, High: high}}
			if wide >= 4 && wide <= 16 && high >= 4 && high <= 16 {
				wantCloudText(t, c, textOfCloud(c))
			} else {
				wantNoCloudText(t, textOfCloud(c))
			}
		}
	}
}

func TestTextsOfMagnetsAndBacks(t *testing.T) {
	for _, magnet := range oddNumbers() {
		for _, back := range oddNumbers() {
			for n := range 2 {
				c := ordinaryCloud(impl.Grid{Wide: 4, High: 16}, n)
				c.Magnet, c.Back = magnet, back
				if finite(magnet) && finite(back) {
					wantCloudText(t, c, textOfCloud(c))
				} else {
					wantNoCloudText(t, textOfCloud(c))
				}
			}
		}
	}
}

func TestCloudTextsAreReadBack(t *testing.T) {
	s := newSource()
	for range 10 {
		for n := range 49 {
			c := s.wildCloud(n)
			wantCloudText(t, c, textOfCloud(c))
			text, _ := impl.CloudText(c)
			back, _ := impl.ReadCloud(text)
			wantEqual(t, "SameCloud of what is read back", impl.SameCloud(c, back), true)
		}
	}
	for _, c := range invalidClouds() {
		wantFailures(t, []badCall{{shortened("CloudText of ", c), call1(impl.CloudText(c))}})
		wantNoCloudText(t, textOfCloud(c))
	}
}

// wrongClouds are texts near those of clouds.
func wrongClouds() []string {
	const grid, numbers = "4,4", "00000000,00000000"
	wrong := []string{
		"", "none", ";;", ";", "none;none;none", grid, grid + ";" + numbers, grid + ";" + numbers + ";", ";" + numbers + ";none", grid + ";;none", numbers + ";none", grid + ";none",
		emptyText + ";", emptyText + ";none", ";" + emptyText, emptyText + "/", emptyText + "/none", emptyText + "/" + unitText, emptyText + ";" + unitText, emptyText + emptyText, emptyText + ";" + emptyText,
		" " + emptyText, emptyText + " ", emptyText + "\n", "\n" + emptyText, emptyText + "\r", emptyText + "\x00", strings.Replace(emptyText, ";", "; ", 1), strings.Replace(emptyText, ",", ", ", 1),
		strings.Replace(emptyText, ";", ",", 1), strings.Replace(emptyText, ";", ":", 1), strings.Replace(emptyText, ";", ";;", 1), strings.Replace(emptyText, "none", "None", 1), strings.Replace(emptyText, "none", "NONE", 1),
		strings.Repeat(";", 100000), strings.Repeat("/", 100000), strings.Repeat(emptyText+";", 1000), strings.Repeat(emptyText, 1000), "0" + emptyText, emptyText[1:], emptyText[:len(emptyText)-1],
	}
	for _, sides := range []string{"4", "4,4,4", "none", "", ",", "4,", ",4", "04,4", "4,04", "+4,4", "4,+4", "-4,4", "4,-4", "4.0,4", "4,4,", ",4,4", "4, 4", "x,4", "4:4", "0x4,4", "3,4", "4,3", "17,4", "4,17", "0,0", "4,4294967300", "1000000000000000,4", "1000000000000001,4", "18446744073709551620,4", "\u0664,4"} {
		wrong = append(wrong, sides+";"+numbers+";none", sides+";"+numbers+";"+unitText)
	}
	for _, two := range []string{"00000000", "00000000,00000000,00000000", "none", "", ",", "00000000,", ",00000000", "0000000000000000", "0,0", "0000000,00000000", "000000000,00000000", "00000000,7F000000", "00000000:00000000", "00000000/00000000", "+0000000,00000000", "00000000,-0000000", "0000000000000000,0000000000000000", "7fc00000,00000000", "00000000,ffc00000", "7f800000,00000000", "00000000,ff800000"} {
		wrong = append(wrong, grid+";"+two+";none", grid+";"+two+";"+unitText)
	}
	for _, list := range []string{"", "/", "//", "none/none", "none/" + unitText, unitText + "/none", unitText + "/", "/" + unitText, unitText + "//" + unitText, unitText + "," + unitText, unitText + ";" + unitText, unitText + unitText, unitText + " " + unitText, unitText + "/ " + unitText, strings.ToUpper(unitText), manyParticles(49), manyParticles(50), manyParticles(64), manyParticles(5000), manyParticles(48) + "/", "/" + manyParticles(48), manyParticles(48) + "/none"} {
		wrong = append(wrong, grid+";"+numbers+";"+list)
	}
	return wrong
}

func TestWrongCloudTexts(t *testing.T) {
	for _, text := range wrongClouds() {
		wantNoCloudText(t, text)
		if _, ok := readCloudWanted(text); ok {
			t.Errorf("%.200q is not wrong", text)
		}
	}
}

// A text that is cut is that of a cloud with fewer particles, or of none.
func TestCutCloudTexts(t *testing.T) {
	s := newSource()
	for _, n := range []int{0, 1, 2, 3, 48} {
		c := s.wildCloud(n)
		text, right := textOfCloud(c), 0
		for cut := range text {
			if got, ok := readCloudWanted(text[:cut]); ok {
				wantReadCloud(t, text[:cut], got)
				wantEqual(t, "how many particles are left", strings.Count(text[:cut], "/")+1, len(got.Particles))
				right++
			} else {
				wantNoCloudText(t, text[:cut])
			}
		}
		wantEqual(t, "how many cut texts are those of clouds", right, max(n-1, 0))
		for from := 1; from < len(text); from++ {
			if got, ok := readCloudWanted(text[from:]); ok {
				wantReadCloud(t, text[from:], got)
			} else {
				wantNoCloudText(t, text[from:])
			}
		}
	}
}

func TestCloudTextsTellEachByte(t *testing.T) {
	s := newSource()
	for _, n := range []int{0, 1, 2} {
		text := textOfCloud(s.gentleCloud(n))
		for i := range text {
			for b := range 256 {
				other := text[:i] + string([]byte{byte(b)}) + text[i+1:]
				if c, ok := readCloudWanted(other); ok {
					wantCloudText(t, c, other)
				} else {
					wantNoCloudText(t, other)
				}
			}
			for _, other := range []string{text[:i] + text[i+1:], text[:i] + " " + text[i:], text[:i] + "0" + text[i:], text[:i] + text[i:i+1] + text[i:]} {
				if c, ok := readCloudWanted(other); ok {
					wantCloudText(t, c, other)
				} else {
					wantNoCloudText(t, other)
				}
			}
		}
	}
}
