package tests

import (
	"fmt"
	"math"
	"testing"

	"loop.example/g01226/impl"
)

// repeated returns a list of n equal numbers.
func repeated[T any](x T, n int) []T {
	list := make([]T, n)
	for i := range list {
		list[i] = x
	}
	return list
}

func TestSumNumbers(t *testing.T) {
	for _, c := range []struct {
		list []float32
		want float32
	}{
		{nil, 0},
		{[]float32{}, 0},
		{[]float32{1, 2, 3.5}, 6.5},
		{[]float32{minusZero()}, 0},
		{[]float32{minusZero(), minusZero()}, 0},
		{[]float32{fromBits(1), fromBits(1)}, fromBits(2)},
		{[]float32{fromBits(1), -fromBits(1)}, 0},
		{[]float32{fromBits(0x00800000), -fromBits(1)}, fromBits(0x007fffff)},
		// Each addition is rounded, from left to right.
		{[]float32{16777216, 1, 1}, 16777216},
		{[]float32{1, 1, 16777216}, 16777218},
		{[]float32{1, 1e30, -1e30}, 0},
		{[]float32{1e30, -1e30, 1}, 1},
		{[]float32{math.MaxFloat32, math.MaxFloat32, -math.MaxFloat32}, infinity()},
		{[]float32{infinity(), 1}, infinity()},
		{[]float32{infinity(), -infinity()}, notANumber()},
		{[]float32{1, notANumber(), 1}, notANumber()},
		{repeated(float32(0.1), 256), fromBits(0x41cccced)},
	} {
		sum, ok := impl.SumNumbers(c.list)
		wantNumber(t, fmt.Sprintf("SumNumbers(%v)", c.list), sum, c.want)
		wantEqual(t, fmt.Sprintf("SumNumbers(%v) succeeds", c.list), ok, true)
	}
}

func TestDotNumbers(t *testing.T) {
	for _, c := range []struct {
		a, b []float32
		want float32
	}{
		{nil, nil, 0},
		{nil, []float32{}, 0},
		{[]float32{1, 2}, []float32{3, 4}, 11},
		{[]float32{1, 2, 3}, []float32{-1, 1, 0.5}, 2.5},
		{[]float32{minusZero()}, []float32{1}, 0},
		{[]float32{-1}, []float32{0}, 0},
		// Each product is rounded before it is added.
		{[]float32{-1 - 0x1p-11, 1 + 0x1p-12}, []float32{1, 1 + 0x1p-12}, 0},
		{[]float32{1 + 0x1p-12, -1 - 0x1p-11}, []float32{1 + 0x1p-12, 1}, 0},
		{[]float32{0.5, 0.5}, []float32{fromBits(1), fromBits(1)}, 0},
		{[]float32{4096, 1, 1}, []float32{4096, 1, 1}, 16777216},
		{[]float32{1, 1, 4096}, []float32{1, 1, 4096}, 16777218},
		{[]float32{1e30, -1e30}, []float32{1e30, 1e30}, notANumber()},
		{[]float32{infinity()}, []float32{0}, notANumber()},
		{[]float32{infinity()}, []float32{-2}, -infinity()},
		{[]float32{1, notANumber()}, []float32{1, 1}, notANumber()},
		{repeated(float32(2), 256), repeated(float32(0.5), 256), 256},
	} {
		sum, ok := impl.DotNumbers(c.a, c.b)
		wantNumber(t, fmt.Sprintf("DotNumbers(%v, %v)", c.a, c.b), sum, c.want)
		wantEqual(t, fmt.Sprintf("DotNumbers(%v, %v) succeeds", c.a, c.b), ok, true)
	}
}

func TestSumComplex(t *testing.T) {
	for _, c := range []struct {
		list []complex64
		want complex64
	}{
		{nil, 0},
		{[]complex64{}, 0},
		{[]complex64{1, complex(2, 3)}, complex(3, 3)},
		{[]complex64{complex(minusZero(), minusZero())}, 0},
		{[]complex64{complex(16777216, 1), complex(1, 1), complex(1, 16777216)}, complex(16777216, 16777218)},
		{[]complex64{complex(1, 1e30), complex(1e30, -1e30), complex(-1e30, 1)}, complex(0, 1)},
		{[]complex64{complex(infinity(), 1), complex(1, infinity())}, complex(infinity(), infinity())},
		{[]complex64{complex(infinity(), 1), complex(-infinity(), 1)}, complex(notANumber(), 2)},
		{[]complex64{complex(1, notANumber()), complex(1, 1)}, complex(2, notANumber())},
		{[]complex64{complex(fromBits(1), -fromBits(1)), complex(fromBits(1), -fromBits(1))}, complex(fromBits(2), -fromBits(2))},
		{repeated(complex64(complex(1, -2)), 256), complex(256, -512)},
	} {
		sum, ok := impl.SumComplex(c.list)
		wantComplex(t, fmt.Sprintf("SumComplex(%v)", c.list), sum, c.want)
		wantEqual(t, fmt.Sprintf("SumComplex(%v) succeeds", c.list), ok, true)
	}
}

func TestDotComplexAndDotConjugate(t *testing.T) {
	i, huge := complex64(complex(0, 1)), float32(math.MaxFloat32)
	for _, c := range []struct {
		a, b           []complex64
		dot, conjugate complex64
	}{
		{nil, nil, 0, 0},
		{nil, []complex64{}, 0, 0},
		{[]complex64{i}, []complex64{i}, -1, 1},
		{[]complex64{i}, []complex64{1}, i, complex(0, -1)},
		{[]complex64{1}, []complex64{i}, i, i},
		{[]complex64{complex(1, 2), complex(0, 2)}, []complex64{complex(3, -1), 2}, complex(5, 9), complex(1, -11)},
		{[]complex64{complex(minusZero(), 0)}, []complex64{1}, 0, 0},
		// Each product is narrowed before it is added.
		{[]complex64{-1 - 0x1p-11, 1 + 0x1p-12}, []complex64{1, 1 + 0x1p-12}, 0, 0},
		{[]complex64{4096, 1, 1}, []complex64{4096, 1, 1}, 16777216, 16777216},
		{[]complex64{1, 1, 4096}, []complex64{1, 1, 4096}, 16777218, 16777218},
		// Each product is made of 64-bit numbers.
		{[]complex64{complex(1+0x1p-12, 1)}, []complex64{complex(1+0x1p-12, 1+0x1p-11)}, complex(0x1p-24, 2+0x1p-10), complex(2+0x1p-10, 0x1p-11+0x1p-23)},
		{[]complex64{complex(huge, huge)}, []complex64{complex(huge, huge)}, complex(0, infinity()), complex(infinity(), 0)},
		{[]complex64{complex(infinity(), 0), 1}, []complex64{1, 1}, complex(infinity(), notANumber()), complex(infinity(), notANumber())},
		{[]complex64{complex(1, notANumber()), 1}, []complex64{1, 1}, complex(notANumber(), notANumber()), complex(notANumber(), notANumber())},
		{repeated(complex64(complex(1, 1)), 256), repeated(complex64(complex(1, -1)), 256), 512, complex(0, -512)},
	} {
		dot, ok := impl.DotComplex(c.a, c.b)
		wantComplex(t, fmt.Sprintf("DotComplex(%v, %v)", c.a, c.b), dot, c.dot)
		wantEqual(t, fmt.Sprintf("DotComplex(%v, %v) succeeds", c.a, c.b), ok, true)
		dot, ok = impl.DotConjugate(c.a, c.b)
		wantComplex(t, fmt.Sprintf("DotConjugate(%v, %v)", c.a, c.b), dot, c.conjugate)
		wantEqual(t, fmt.Sprintf("DotConjugate(%v, %v) succeeds", c.a, c.b), ok, true)
	}
}

func TestPowersOf(t *testing.T) {
	huge := float32(math.MaxFloat32)
	for _, c := range []struct {
		list []complex64
		want float32
	}{
		{nil, 0},
		{[]complex64{}, 0},
		{[]complex64{complex(3, 4), 1}, 26},
		{[]complex64{complex(minusZero(), minusZero())}, 0},
		// Neither the powers nor their sums are narrowed before the end.
		{[]complex64{4096, 1, 1}, 16777218},
		{[]complex64{4097, 4097, complex(0, 4097)}, 50356228},
		{[]complex64{0x1p-75, complex(0, 0x1p-75), 0x1p-75}, fromBits(2)},
		// From left to right, the little ones are lost behind the great ones.
		{[]complex64{4096, 1, 0x1p-15, 0x1p-15, 0x1p-15, 0x1p-15}, 16777216},
		{[]complex64{0x1p-15, 0x1p-15, 0x1p-15, 0x1p-15, 1, 4096}, 16777218},
		{[]complex64{complex(huge, 0), complex(0, huge)}, infinity()},
		{[]complex64{complex(infinity(), 1)}, infinity()},
		{[]complex64{1, complex(1, notANumber())}, notANumber()},
		{[]complex64{complex(infinity(), notANumber()), 1}, notANumber()},
		{repeated(complex64(complex(1, 1)), 256), 512},
	} {
		sum, ok := impl.PowersOf(c.list)
		wantNumber(t, fmt.Sprintf("PowersOf(%v)", c.list), sum, c.want)
		wantEqual(t, fmt.Sprintf("PowersOf(%v) succeeds", c.list), ok, true)
	}
}

func TestSumsOfTooLongLists(t *testing.T) {
	long, longComplex := repeated(float32(1), 257), repeated(complex64(1), 257)
	sum, ok := impl.SumNumbers(long)
	wantNumber(t, "SumNumbers of 257", sum, 0)
	wantEqual(t, "SumNumbers of 257 succeeds", ok, false)
	total, ok := impl.SumComplex(longComplex)
	wantComplex(t, "SumComplex of 257", total, 0)
	wantEqual(t, "SumComplex of 257 succeeds", ok, false)
	sum, ok = impl.PowersOf(longComplex)
	wantNumber(t, "PowersOf 257", sum, 0)
	wantEqual(t, "PowersOf 257 succeeds", ok, false)
}

func TestDotsOfWrongLengths(t *testing.T) {
	for _, c := range [][2]int{{257, 257}, {256, 257}, {257, 256}, {256, 255}, {1, 0}, {0, 1}, {1, 2}, {3, 2}} {
		a, b := repeated(complex64(1), c[0]), repeated(complex64(1), c[1])
		sum, ok := impl.DotNumbers(repeated(float32(1), c[0]), repeated(float32(1), c[1]))
		wantNumber(t, fmt.Sprint("DotNumbers of lengths ", c), sum, 0)
		wantEqual(t, fmt.Sprint("DotNumbers succeeds, of lengths ", c), ok, false)
		dot, ok := impl.DotComplex(a, b)
		wantComplex(t, fmt.Sprint("DotComplex of lengths ", c), dot, 0)
		wantEqual(t, fmt.Sprint("DotComplex succeeds, of lengths ", c), ok, false)
		dot, ok = impl.DotConjugate(a, b)
		wantComplex(t, fmt.Sprint("DotConjugate of lengths ", c), dot, 0)
		wantEqual(t, fmt.Sprint("DotConjugate succeeds, of lengths ", c), ok, false)
	}
}
