package tests

import (
	"fmt"
	"math"
	"testing"

	"loop.example/g01226/impl"
)

func checkOf(t *testing.T, text string) int64 {
	t.Helper()
	check, ok := impl.CheckOf(0, text)
	wantEqual(t, "CheckOf succeeds", ok, true)
	return check
}

// The text of a particle has a comma inside, and there is none between two of them.
func TestChecksOfTexts(t *testing.T) {
	none := impl.Particle{Charge: 5, Mass: 1}
	one := impl.Particle{At: 1, Speed: complex(0, -2), Charge: -1, Mass: 3}
	const noneText, oneText = "0000000000000000,0000000000000000", "3f80000000000000,00000000c0000000"
	for _, c := range []struct {
		list  []impl.Particle
		texts []string
	}{
		{nil, nil},
		{[]impl.Particle{none}, []string{noneText}},
		{[]impl.Particle{one}, []string{oneText}},
		{[]impl.Particle{one, none}, []string{oneText + noneText}},
		{[]impl.Particle{none, one}, []string{noneText + oneText}},
		{[]impl.Particle{{At: complex(minusZero(), 0), Speed: complex(0, minusZero()), Mass: 1}}, []string{"8000000000000000,0000000080000000"}},
		{[]impl.Particle{{At: complex(math.MaxFloat32, fromBits(1)), Speed: complex(-1, 0.5), Mass: 1}}, []string{"7f7fffff00000001,bf8000003f000000"}},
		{append(repeated(one, 8), none), []string{repeatedText(oneText, 8), noneText}},
		{append(repeated(one, 7), none), []string{repeatedText(oneText, 7) + noneText}},
		{append(repeated(none, 16), one), []string{repeatedText(noneText, 8), repeatedText(noneText, 8), oneText}},
	} {
		var want []int64
		for _, text := range c.texts {
			want = append(want, checkOf(t, text))
		}
		got, ok := impl.CloudChecks(cloudIn(c.list...))
		wantIntegers(t, fmt.Sprintf("CloudChecks of %d", len(c.list)), got, ok, want...)
	}
}

func repeatedText(text string, n int) string {
	whole := ""
	for range n {
		whole += text
	}
	return whole
}

// Each group has eight particles, but for the last one, which may have fewer.
func TestGroupsOfChecks(t *testing.T) {
	s := newSource()
	for n := range 49 {
		c := s.anyCloud(n)
		checks, ok := impl.CloudChecks(c)
		wantEqual(t, fmt.Sprintf("CloudChecks of %d succeeds", n), ok, true)
		wantEqual(t, fmt.Sprintf("how many checks %d particles have", n), len(checks), (n+7)/8)
		for k, check := range checks {
			group := c.Particles[8*k : min(8*k+8, n)]
			wantEqual(t, fmt.Sprintf("the check %d of %d particles", k, n), check, checkWanted(group))
			alone, ok := impl.CloudChecks(withList(c, group))
			wantIntegers(t, "CloudChecks of a group alone", alone, ok, check)
		}
	}
}

// A check tells places and speeds of its own group, and nothing else.
func TestChecksTellPlacesAndSpeeds(t *testing.T) {
	s := newSource()
	c := s.gentleCloud(44)
	before, _ := impl.CloudChecks(c)
	for i := range c.Particles {
		for part := range 7 {
			other := withList(c, append([]impl.Particle{}, c.Particles...))
			p := &other.Particles[i]
			switch part {
			case 0:
				p.At = complex(above(real(p.At)), imag(p.At))
			case 1:
				p.At = complex(real(p.At), above(imag(p.At)))
			case 2:
				p.Speed = complex(above(real(p.Speed)), imag(p.Speed))
			case 3:
				p.Speed = complex(real(p.Speed), above(imag(p.Speed)))
			case 4:
				p.Charge++
			case 5:
				p.Mass++
			case 6:
				other.Magnet, other.Back = 7, 9
				other.Grid = impl.Grid{Wide: 4, High: 4}
			}
			after, ok := impl.CloudChecks(other)
			wantEqual(t, "CloudChecks succeeds", ok && len(after) == 6, true)
			for k := range after {
				wantEqual(t, fmt.Sprintf("whether the check %d stays if the number %d of %d changes", k, part, i), after[k] == before[k], part > 3 || k != i/8)
			}
		}
	}
}
