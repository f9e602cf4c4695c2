package tests

import (
	"fmt"
	"math"
	"slices"
	"strings"

	"loop.example/g01226/impl"
)

// collision has all arguments of the functions of chapter 6. Where they take one
// particle or two, these are the first ones of the list.
type collision struct {
	g                                         impl.Grid
	list                                      []impl.Particle
	seed, count                               int64
	share, turns, low, high, keep, size, wide float32
}

func (c collision) two() (a, b impl.Particle) {
	list := append(slices.Clone(c.list), impl.Particle{}, impl.Particle{})
	return list[0], list[1]
}

// collisionOf takes the seven numbers from a text.
func collisionOf(g impl.Grid, list []impl.Particle, seed, count int64, text string) collision {
	n, _ := impl.ReadNumbers(text)
	return collision{g: g, list: list, seed: seed, count: count, share: n[0], turns: n[1], low: n[2], high: n[3], keep: n[4], size: n[5], wide: n[6]}
}

// listAs makes a list of the six numbers of each of its particles.
func listAs(numbers []float32) []impl.Particle {
	return cloudAs(impl.Grid{}, append([]float32{0, 0}, numbers...)).Particles
}

// anyCollision has ordinary numbers, and a list of any valid particles.
func (s source) anyCollision(n int) collision {
	list := s.anyCloud(n).Particles
	walls := []float32{s.number(), s.number()}
	slices.Sort(walls)
	return collision{
		g: s.grid(), list: list, seed: s.Int63n(1 << 31), count: s.Int63n(17), share: float32(s.Float64()), turns: s.number(),
		low: walls[0], high: walls[1], keep: s.number(), size: s.number(), wide: s.number(),
	}
}

// collisions are all functions of chapter 6, but those of seeds alone.
type collisions struct {
	pairSpeed  func(a, b impl.Particle) (complex64, bool)
	meet       func(a, b impl.Particle, turns float32) (impl.Particle, impl.Particle, bool)
	bump       func(a, b impl.Particle) (impl.Particle, impl.Particle, bool)
	pairs      func(g impl.Grid, list []impl.Particle) ([][]int64, bool)
	meetAll    func(g impl.Grid, list []impl.Particle, seed int64, share float32) ([]impl.Particle, int64, int64, bool)
	reflect    func(p impl.Particle, low, high, keep float32) (impl.Particle, bool)
	reflectAll func(list []impl.Particle, low, high, keep float32) ([]impl.Particle, int64, bool)
	take       func(list []impl.Particle, low, high float32) ([]impl.Particle, float32, bool)
	spread     func(list []impl.Particle, seed int64, size float32) ([]impl.Particle, int64, bool)
	emit       func(seed, count int64, from impl.Particle, wide float32) ([]impl.Particle, int64, bool)
	split      func(p impl.Particle, n int64) ([]impl.Particle, bool)
	merge      func(a, b impl.Particle) (impl.Particle, bool)
	drag       func(list []impl.Particle, keep float32) ([]impl.Particle, bool)
	coolest    func(list []impl.Particle) (int64, float32, bool)
	differ     func(list []impl.Particle) (float32, bool)
}

func collisionsGiven() collisions {
	return collisions{
		impl.PairSpeed, impl.MeetSpeeds, impl.BumpSpeeds, impl.PairsIn, impl.MeetAll, impl.ReflectAt, impl.ReflectAll, impl.TakeOutside,
		impl.SpreadSpeeds, impl.EmitParticles, impl.SplitParticle, impl.MergeParticles, impl.DragSpeeds, impl.CoolestOf, impl.SpreadOf,
	}
}

func collisionsWanted() collisions {
	return collisions{
		pairSpeedWanted, meetWanted, bumpWanted, pairsWanted, meetAllWanted, reflectWanted, reflectAllWanted, takeWanted,
		spreadWanted, emitWanted, splitWanted, mergeWanted, dragWanted, coolestWanted, differWanted,
	}
}

// wordsOf tells what the functions return: NextSeed, UnitOfSeed, and then the
// others in the order of the chapter.
func (f collisions) wordsOf(c collision) string {
	a, b := c.two()
	next, one := impl.NextSeed(c.seed)
	coolest, least, two := f.coolest(c.list)
	pairs, three := f.pairs(c.g, c.list)
	met, count, seed, four := f.meetAll(c.g, c.list, c.seed, c.share)
	reflected, thrown, five := f.reflectAll(c.list, c.low, c.high, c.keep)
	between, taken, six := f.take(c.list, c.low, c.high)
	spread, then, seven := f.spread(c.list, c.seed, c.size)
	emitted, last, eight := f.emit(c.seed, c.count, a, c.wide)
	return strings.Join([]string{
		wordOfCount(next, one), wordOfNumber(impl.UnitOfSeed(c.seed)), wordOfComplex(f.pairSpeed(a, b)), wordOfTwo(f.meet(a, b, c.turns)),
		wordOfTwo(f.bump(a, b)), wordOfPairs(pairs, three), wordOfList(four, met, count, seed), wordOfOne(f.reflect(a, c.low, c.high, c.keep)),
		wordOfList(five, reflected, thrown), wordOfList(six, between, impl.BitsOf(taken)), wordOfList(seven, spread, then), wordOfList(eight, emitted, last),
		wordOfSome(f.split(a, c.count)), wordOfOne(f.merge(a, b)), wordOfSome(f.drag(c.list, c.keep)), wordOfList(two, nil, coolest, impl.BitsOf(least)),
		wordOfNumber(f.differ(c.list)),
	}, ";")
}

// wordOfList is the text of all numbers of a result, with a check number instead
// if it is long, and no where there is none.
func wordOfList(ok bool, list []impl.Particle, integers ...int64) string {
	if !ok {
		if len(list) > 0 || slices.ContainsFunc(integers, func(n int64) bool { return n != 0 }) {
			return "no, but a result"
		}
		return "no"
	}
	var words []string
	for _, x := range numbersOfCloud(impl.Cloud{Particles: list})[2:] {
		words = append(words, fmt.Sprintf("%08x", impl.BitsOf(x)))
	}
	for _, n := range integers {
		words = append(words, fmt.Sprint(n))
	}
	text := strings.Join(words, ",")
	if len(text) <= 60 {
		return text
	}
	n, _ := impl.CheckOf(0, text)
	return fmt.Sprintf("#%d,%s", n, words[len(words)-1])
}

func wordOfSome(list []impl.Particle, ok bool) string {
	return wordOfList(ok, list)
}

func wordOfCount(n int64, ok bool) string {
	return wordOfList(ok, nil, n)
}

func wordOfOne(p impl.Particle, ok bool) string {
	if !ok && sameParticle(p, impl.Particle{}) {
		return "no"
	}
	return wordOfList(ok, []impl.Particle{p})
}

func wordOfTwo(a, b impl.Particle, ok bool) string {
	if !ok && sameParticle(a, impl.Particle{}) && sameParticle(b, impl.Particle{}) {
		return "no"
	}
	return wordOfList(ok, []impl.Particle{a, b})
}

// wordOfPairs tells lists that are not pairs by their lengths.
func wordOfPairs(pairs [][]int64, ok bool) string {
	for _, pair := range pairs {
		if len(pair) != 2 {
			return fmt.Sprintf("a list of %d", len(pair))
		}
	}
	return wordOfList(ok, nil, slices.Concat(pairs...)...)
}

// The functions below tell what the document tells, step by step, each step as
// one on 64-bit numbers that is narrowed. They take valid arguments.

func nextWanted(seed int64) int64 {
	return int64((uint32(seed)*1103515245 + 12345) << 1 >> 1)
}

// useWanted has the 15 bits behind the point.
func useWanted(seed *int64) float32 {
	*seed = nextWanted(*seed)
	return float32(math.Ldexp(float64(*seed>>16), -15))
}

func validWanted(list ...impl.Particle) bool {
	return !slices.ContainsFunc(list, func(p impl.Particle) bool {
		return !finiteParts(p.At) || !finiteParts(p.Speed) || !finite(p.Charge) || !finite(p.Mass) || !(p.Mass > 0)
	})
}

// byMassWanted is the quotient of the sum of x and y, each with its mass, and the
// sum of both masses.
func byMassWanted(a, b impl.Particle, x, y complex64) complex64 {
	sum := sumWanted(scaledWanted(x, a.Mass), scaledWanted(y, b.Mass))
	m, u, v := float64(plus(a.Mass, b.Mass)), float64(real(sum)), float64(imag(sum))
	return complex(float32((u*m+v*0)/(m*m)), float32((v*m-u*0)/(m*m)))
}

func pairSpeedWanted(a, b impl.Particle) (complex64, bool) {
	pair := byMassWanted(a, b, a.Speed, b.Speed)
	if !validWanted(a, b) || !finiteParts(pair) {
		return 0, false
	}
	return pair, true
}

func meetWanted(a, b impl.Particle, turns float32) (impl.Particle, impl.Particle, bool) {
	pair, ok := pairSpeedWanted(a, b)
	d := complex(minus(real(a.Speed), real(b.Speed)), minus(imag(a.Speed), imag(b.Speed)))
	r := complex64(complex128(d) * complex128(impl.PhasorOf(float64(turns))))
	m := plus(a.Mass, b.Mass)
	first, second := scaledWanted(r, over(b.Mass, m)), scaledWanted(r, over(a.Mass, m))
	a.Speed = complex(plus(real(pair), real(first)), plus(imag(pair), imag(first)))
	b.Speed = complex(minus(real(pair), real(second)), minus(imag(pair), imag(second)))
	if !ok || !validWanted(a, b) {
		return impl.Particle{}, impl.Particle{}, false
	}
	return a, b, true
}

func bumpWanted(a, b impl.Particle) (impl.Particle, impl.Particle, bool) {
	return meetWanted(a, b, 0.5)
}

// pairsWanted goes through the whole list for each cell.
func pairsWanted(g impl.Grid, list []impl.Particle) ([][]int64, bool) {
	cells := make([]int64, len(list))
	for i, p := range list {
		place := placeWanted(g, p.At)
		cells[i] = int64(math.Floor(float64(real(place)))) + g.Wide*int64(math.Floor(float64(imag(place))))
	}
	var pairs [][]int64
	for cell := range g.Wide * g.High {
		first := int64(-1)
		for i := range list {
			switch {
			case cells[i] != cell:
			case first < 0:
				first = int64(i)
			default:
				pairs = append(pairs, []int64{first, int64(i)})
				first = -1
			}
		}
	}
	return pairs, true
}

func meetAllWanted(g impl.Grid, list []impl.Particle, seed int64, share float32) ([]impl.Particle, int64, int64, bool) {
	pairs, _ := pairsWanted(g, list)
	list = slices.Clone(list)
	met := int64(0)
	for _, pair := range pairs {
		if useWanted(&seed) < share {
			a, b, ok := meetWanted(list[pair[0]], list[pair[1]], useWanted(&seed))
			if !ok {
				return nil, 0, 0, false
			}
			list[pair[0]], list[pair[1]] = a, b
			met++
		}
	}
	return list, met, seed, true
}

func reflectWanted(p impl.Particle, low, high, keep float32) (impl.Particle, bool) {
	list, _, ok := reflectAllWanted([]impl.Particle{p}, low, high, keep)
	return firstOf(list), ok
}

func reflectAllWanted(list []impl.Particle, low, high, keep float32) ([]impl.Particle, int64, bool) {
	var after []impl.Particle
	thrown := int64(0)
	for _, p := range list {
		x := real(p.At)
		if x < low || x > high {
			wall := high
			if x < low {
				wall = low
			}
			p.At = complex(minus(times(2, wall), x), imag(p.At))
			p.Speed = complex(times(-real(p.Speed), keep), imag(p.Speed))
			thrown++
		}
		after = append(after, p)
	}
	if !validWanted(after...) {
		return nil, 0, false
	}
	return after, thrown, true
}

func takeWanted(list []impl.Particle, low, high float32) ([]impl.Particle, float32, bool) {
	var between []impl.Particle
	taken := float32(0)
	for _, p := range list {
		if x := real(p.At); x >= low && x <= high {
			between = append(between, p)
			continue
		}
		taken = plus(taken, p.Charge)
	}
	if !finite(taken) {
		return nil, 0, false
	}
	return between, taken, true
}

func spreadWanted(list []impl.Particle, seed int64, size float32) ([]impl.Particle, int64, bool) {
	var after []impl.Particle
	for _, p := range list {
		var parts [2]float32
		for i := range parts {
			sum := useWanted(&seed)
			for range 3 {
				sum = plus(sum, useWanted(&seed))
			}
			parts[i] = times(size, minus(sum, 2))
		}
		p.Speed = complex(plus(real(p.Speed), parts[0]), plus(imag(p.Speed), parts[1]))
		after = append(after, p)
	}
	if !validWanted(after...) {
		return nil, 0, false
	}
	return after, seed, true
}

func emitWanted(seed, count int64, from impl.Particle, wide float32) ([]impl.Particle, int64, bool) {
	if !validWanted(from) {
		return nil, 0, false
	}
	var list []impl.Particle
	for range count {
		p := from
		p.At = complex(real(from.At), plus(imag(from.At), times(wide, minus(useWanted(&seed), 0.5))))
		list = append(list, p)
	}
	if !validWanted(list...) {
		return nil, 0, false
	}
	return list, seed, true
}

func splitWanted(p impl.Particle, n int64) ([]impl.Particle, bool) {
	part := p
	part.Charge, part.Mass = over(p.Charge, float32(n)), over(p.Mass, float32(n))
	if n < 1 || !validWanted(p, part) {
		return nil, false
	}
	return repeated(part, int(n)), true
}

func mergeWanted(a, b impl.Particle) (impl.Particle, bool) {
	speed, ok := pairSpeedWanted(a, b)
	p := impl.Particle{At: byMassWanted(a, b, a.At, b.At), Speed: speed, Charge: plus(a.Charge, b.Charge), Mass: plus(a.Mass, b.Mass)}
	if !ok || !validWanted(p) {
		return impl.Particle{}, false
	}
	return p, true
}

func dragWanted(list []impl.Particle, keep float32) ([]impl.Particle, bool) {
	var after []impl.Particle
	for _, p := range list {
		p.Speed = scaledWanted(p.Speed, keep)
		after = append(after, p)
	}
	if !validWanted(after...) {
		return nil, false
	}
	return after, true
}

func coolestWanted(list []impl.Particle) (int64, float32, bool) {
	coolest, least := int64(-1), infinity()
	for i, p := range list {
		if long := longWanted(p.Speed); long < least {
			coolest, least = int64(i), long
		}
	}
	if coolest < 0 {
		return 0, 0, false
	}
	return coolest, least, true
}

func differWanted(list []impl.Particle) (float32, bool) {
	total, n, sum := complex64(0), float64(len(list)), 0.0
	for _, p := range list {
		total = sumWanted(total, p.Speed)
	}
	u, v := float64(real(total)), float64(imag(total))
	x, y := float32((u*n+v*0)/(n*n)), float32((v*n-u*0)/(n*n))
	for _, p := range list {
		sum += float64(powerWanted(complex(minus(real(p.Speed), x), minus(imag(p.Speed), y))))
	}
	if wanted := float32(sum / n); finite(wanted) {
		return wanted, true
	}
	return 0, false
}
