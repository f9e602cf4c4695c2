package tests

import (
	"fmt"
	"math"
	"slices"
	"strings"
	"testing"

	"loop.example/g01226/impl"
)

// cloudAs makes a cloud of the numbers Magnet and Back, and of six more for each
// of its particles.
func cloudAs(g impl.Grid, numbers []float32) impl.Cloud {
	c := impl.Cloud{Grid: g, Magnet: numbers[0], Back: numbers[1]}
	for n := range slices.Chunk(numbers[2:], 6) {
		c.Particles = append(c.Particles, particleOf([6]float32(n)))
	}
	return c
}

// patternedCloud is one for which a separate calculation has told results.
func patternedCloud(g impl.Grid, n, seed int) impl.Cloud {
	numbers := patterned(2+6*n, seed)
	for i := range numbers {
		numbers[i] /= 8
	}
	c := cloudAs(g, numbers)
	for i, p := range c.Particles {
		c.Particles[i].At = complex(4*real(p.At), 4*imag(p.At))
		c.Particles[i].Mass = max(p.Mass, -p.Mass) + 0.5
	}
	return c
}

func numbersOfCloud(c impl.Cloud) []float32 {
	numbers := []float32{c.Magnet, c.Back}
	for _, p := range c.Particles {
		numbers = append(append(numbers, partsOf(p.At, p.Speed)...), p.Charge, p.Mass)
	}
	return numbers
}

// cloud has random numbers of many magnitudes.
func (s source) cloud(n int) impl.Cloud {
	return impl.Cloud{Grid: s.grid(), Particles: s.particles(n), Magnet: s.number(), Back: s.number()}
}

// gentleCloud has neither great numbers nor particles that are pushed far.
func (s source) gentleCloud(n int) impl.Cloud {
	a := s.gentle()
	c := impl.Cloud{Grid: a.g, Magnet: a.magnet / 4, Back: float32(s.Float64())}
	for range n {
		c.Particles = append(c.Particles, s.gentle().p)
	}
	return c
}

// wildCloud may have any valid numbers, most of which are very great or small.
func (s source) wildCloud(n int) impl.Cloud {
	c := s.cloud(n)
	for i := range c.Particles {
		p := &c.Particles[i]
		for _, x := range []*float32{&p.Charge, &c.Back, &c.Magnet} {
			if s.Intn(4) == 0 {
				*x = s.finiteBits()
			}
		}
		if s.Intn(4) == 0 {
			p.At = complex(s.finiteBits(), s.finiteBits())
		}
		if s.Intn(4) == 0 {
			p.Speed = complex(s.finiteBits(), s.finiteBits())
		}
		if x := s.finiteBits(); x > 0 && s.Intn(4) == 0 {
			p.Mass = x
		}
	}
	return c
}

// anyCloud is one of these kinds.
func (s source) anyCloud(n int) impl.Cloud {
	switch s.Intn(3) {
	case 0:
		return s.cloud(n)
	case 1:
		return s.gentleCloud(n)
	}
	return s.wildCloud(n)
}

// The words of results are texts of their numbers, and no where there are none.
// A list that is too long for a text has a check number instead.

func shortWord(numbers []float32) string {
	var words []string
	for _, x := range numbers {
		words = append(words, fmt.Sprintf("%08x", impl.BitsOf(x)))
	}
	text := strings.Join(words, ",")
	if len(text) <= 60 {
		return text
	}
	n, _ := impl.CheckOf(0, text)
	return fmt.Sprintf("#%d,%s", n, words[len(words)-1])
}

func wordOfNumbers(list []float32, ok bool) string {
	switch {
	case ok:
		return shortWord(list)
	case len(list) > 0:
		return "no, but numbers"
	}
	return "no"
}

func wordOfComplexes(list []complex64, ok bool) string {
	return wordOfNumbers(partsOf(list...), ok)
}

// wordOfCloud tells the numbers of a cloud that has the grid of another one.
func wordOfCloud(g impl.Grid, c impl.Cloud, ok bool) string {
	switch {
	case ok && c.Grid != g:
		return "another grid"
	case ok:
		return shortWord(numbersOfCloud(c))
	case c.Grid != impl.Grid{} || len(c.Particles) > 0 || !sameBits(c.Magnet, 0) || !sameBits(c.Back, 0):
		return "no, but a cloud"
	}
	return "no"
}

func wantCloud(t *testing.T, what string, got impl.Cloud, ok bool, want impl.Cloud) {
	t.Helper()
	wantEqual(t, what+" succeeds", ok, true)
	wantEqual(t, what+", the grid", got.Grid, want.Grid)
	wantNumber(t, what+", Magnet", got.Magnet, want.Magnet)
	wantNumber(t, what+", Back", got.Back, want.Back)
	wantParticles(t, what, got.Particles, want.Particles)
}

// The functions below tell what the document tells, step by step, each step as
// one on 64-bit numbers that is narrowed.

func cloudChargeWanted(c impl.Cloud) []float32 {
	field := depositWanted(c.Grid, c.Particles)
	for i, x := range field {
		field[i] = plus(x, c.Back)
	}
	return field
}

func cloudPotentialWanted(c impl.Cloud, rounds int64) []float32 {
	return potentialWanted(c.Grid, cloudChargeWanted(c), rounds)
}

func cloudFieldsWanted(c impl.Cloud, rounds int64) []complex64 {
	x, y := fieldsWanted(c.Grid, cloudPotentialWanted(c, rounds))
	var fields []complex64
	for _, p := range c.Particles {
		fields = append(fields, gatherTwoWanted(c.Grid, x, y, p.At))
	}
	return fields
}

func forcesWanted(c impl.Cloud, rounds int64) []complex64 {
	forces := cloudFieldsWanted(c, rounds)
	for i, p := range c.Particles {
		forces[i] = scaledWanted(forces[i], p.Charge)
	}
	return forces
}

func totalWanted(c impl.Cloud) float32 {
	sum := float32(0)
	for _, p := range c.Particles {
		sum = plus(sum, p.Charge)
	}
	return sum
}

func powerWanted(x complex64) float32 {
	a, b := float64(real(x)), float64(imag(x))
	return float32(a*a + b*b)
}

func kineticWanted(c impl.Cloud) float32 {
	sum := float32(0)
	for _, p := range c.Particles {
		sum = plus(sum, times(times(0.5, p.Mass), powerWanted(p.Speed)))
	}
	return sum
}

func momentumWanted(c impl.Cloud) complex64 {
	sum := complex64(0)
	for _, p := range c.Particles {
		sum = sumWanted(sum, scaledWanted(p.Speed, p.Mass))
	}
	return sum
}

func cloudEnergyWanted(c impl.Cloud, rounds int64) float32 {
	return plus(kineticWanted(c), energyWanted(cloudPotentialWanted(c, rounds), cloudChargeWanted(c)))
}

func temperatureWanted(c impl.Cloud) (float32, bool) {
	if len(c.Particles) == 0 {
		return 0, false
	}
	x, y, heat, n := float32(0), float32(0), float32(0), float32(len(c.Particles))
	for _, p := range c.Particles {
		x, y = plus(x, real(p.Speed)), plus(y, imag(p.Speed))
	}
	x, y = over(x, n), over(y, n)
	for _, p := range c.Particles {
		heat = plus(heat, powerWanted(complex(minus(real(p.Speed), x), minus(imag(p.Speed), y))))
	}
	return over(heat, n), true
}

// eachWanted makes another particle of each one, and fails with one of them.
func eachWanted(c impl.Cloud, with func(i int, p impl.Particle) impl.Particle) (impl.Cloud, bool) {
	list := make([]impl.Particle, len(c.Particles))
	for i, p := range c.Particles {
		var ok bool
		if list[i], ok = wholeParticle(with(i, p)); !ok {
			return impl.Cloud{}, false
		}
	}
	c.Particles = list
	return c, true
}

func stepWanted(c impl.Cloud, tick float32, rounds int64) (impl.Cloud, bool) {
	fields := cloudFieldsWanted(c, rounds)
	return eachWanted(c, func(i int, p impl.Particle) impl.Particle {
		p.Speed = speedWanted(p, fields[i], c.Magnet, tick)
		p.At = driftWanted(c.Grid, p.At, p.Speed, tick)
		return p
	})
}

func runWanted(c impl.Cloud, tick float32, rounds, steps int64) (impl.Cloud, []float32, bool) {
	var energies []float32
	for range steps {
		var ok bool
		if c, ok = stepWanted(c, tick, rounds); !ok {
			return impl.Cloud{}, nil, false
		}
		energies = append(energies, kineticWanted(c))
	}
	return c, energies, true
}

func cloudDriftWanted(c impl.Cloud, tick float32) (impl.Cloud, bool) {
	return eachWanted(c, func(_ int, p impl.Particle) impl.Particle {
		p.At = driftWanted(c.Grid, p.At, p.Speed, tick)
		return p
	})
}

func moveWanted(c impl.Cloud, x, y int64) (impl.Cloud, bool) {
	return eachWanted(c, func(_ int, p impl.Particle) impl.Particle {
		p.At = placeWanted(c.Grid, sumWanted(p.At, complex(float32(x), float32(y))))
		return p
	})
}

func backWantedOfCloud(c impl.Cloud) (impl.Cloud, bool) {
	c.Magnet = float32(math.Copysign(float64(c.Magnet), signTurned(c.Magnet)))
	return eachWanted(c, func(_ int, p impl.Particle) impl.Particle {
		x, y := float64(real(p.Speed)), float64(imag(p.Speed))
		p.Speed = complex(float32(math.Copysign(x, signTurned(real(p.Speed)))), float32(math.Copysign(y, signTurned(imag(p.Speed)))))
		return p
	})
}

// signTurned has the sign that x does not have.
func signTurned(x float32) float64 {
	if math.Signbit(float64(x)) {
		return 1
	}
	return -1
}
