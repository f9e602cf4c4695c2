package tests

import (
	"fmt"
	"math"
	"math/big"
	"testing"

	"loop.example/g01226/impl"
)

func wrongSeeds() []int64 {
	return []int64{-1, -2147483648, 2147483648, 2147483649, 1 << 32, 1<<32 + 1, 1 << 62, math.MaxInt64, math.MinInt64}
}

// nextSeed and use are taken where the seed is valid.

func nextSeed(t *testing.T, seed int64) int64 {
	t.Helper()
	next, ok := impl.NextSeed(seed)
	wantEqual(t, fmt.Sprintf("NextSeed(%d) succeeds", seed), ok, true)
	return next
}

func use(t *testing.T, seed *int64) float32 {
	t.Helper()
	*seed = nextSeed(t, *seed)
	unit, ok := impl.UnitOfSeed(*seed)
	wantEqual(t, fmt.Sprintf("UnitOfSeed(%d) succeeds", *seed), ok, true)
	return unit
}

// seedBehind is the seed that has been used some times.
func seedBehind(t *testing.T, seed int64, times int) int64 {
	t.Helper()
	for range times {
		use(t, &seed)
	}
	return seed
}

// A calculation outside of this project has told these seeds and numbers.
func TestSeedsAgainstAnotherCalculation(t *testing.T) {
	seed := int64(0)
	for _, c := range []struct {
		seed int64
		unit uint32
	}{
		{12345, 0x00000000}, {1406932606, 0x3f27b800}, {654583775, 0x3e9c1000}, {1449466924, 0x3f2cca00}, {229283573, 0x3ddaa000},
		{1109335178, 0x3f043e00}, {1051550459, 0x3efab400}, {1293799192, 0x3f1a3a00}, {794471793, 0x3ebd6800}, {551188310, 0x3e836800},
	} {
		unit := use(t, &seed)
		wantEqual(t, "the next seed", seed, c.seed)
		wantNumber(t, fmt.Sprintf("UnitOfSeed(%d)", seed), unit, fromBits(c.unit))
	}
}

func TestNextSeed(t *testing.T) {
	s := newSource()
	seeds := []int64{0, 1, 2, 7, 65535, 65536, 1<<30 - 1, 1 << 30, 2147483646, 2147483647}
	for range 1000 {
		seeds = append(seeds, s.Int63n(1<<31))
	}
	for _, seed := range seeds {
		product := new(big.Int).Mul(big.NewInt(1103515245), big.NewInt(seed))
		want := product.Add(product, big.NewInt(12345)).Mod(product, big.NewInt(1<<31)).Int64()
		wantEqual(t, fmt.Sprintf("NextSeed(%d)", seed), nextSeed(t, seed), want)
	}
	wantEqual(t, "NextSeed(0)", nextSeed(t, 0), 12345)
	wantEqual(t, "NextSeed(2147483647)", nextSeed(t, 2147483647), 2147483648+12345-1103515245)
}

func TestUnitOfSeed(t *testing.T) {
	for _, c := range []struct {
		seed int64
		want float32
	}{
		{0, 0}, {1, 0}, {65535, 0}, {65536, 0x1p-15}, {131071, 0x1p-15}, {131072, 0x1p-14}, {196608, 0x3p-15},
		{1<<30 - 1, 0.5 - 0x1p-15}, {1 << 30, 0.5}, {1<<30 + 65535, 0.5}, {2147483647 - 65536, 1 - 0x1p-14}, {2147483646, 1 - 0x1p-15}, {2147483647, 1 - 0x1p-15},
	} {
		got, ok := impl.UnitOfSeed(c.seed)
		wantEqual(t, fmt.Sprintf("UnitOfSeed(%d)", c.seed), wordOfNumber(got, ok), wordOf(true, c.want))
	}
	for n := range int64(32768) {
		for _, rest := range []int64{0, 65535} {
			got, ok := impl.UnitOfSeed(n*65536 + rest)
			wantEqual(t, fmt.Sprintf("UnitOfSeed(%d)", n*65536+rest), wordOfNumber(got, ok), wordOf(true, float32(n)/32768))
		}
	}
}

func TestSeedsHaveLimits(t *testing.T) {
	for _, seed := range wrongSeeds() {
		wantFailures(t, []badCall{
			{fmt.Sprintf("NextSeed(%d)", seed), call1(impl.NextSeed(seed))},
			{fmt.Sprintf("UnitOfSeed(%d)", seed), call1(impl.UnitOfSeed(seed))},
		})
	}
}
