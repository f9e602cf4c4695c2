package tests

import (
	"math"
	"testing"
)

// fromBits makes a number without the help of the package under test.
func fromBits(b uint32) float32 {
	return math.Float32frombits(b)
}

// notANumber has other bits than the ones that BitsOf tells.
func notANumber() float32 {
	return fromBits(0xffc12345)
}

func infinity() float32 {
	return fromBits(0x7f800000)
}

func minusZero() float32 {
	return fromBits(0x80000000)
}

// sameBits compares as the document does: all not-a-numbers are one value, and
// the two zeros are two.
func sameBits(a, b float32) bool {
	if a != a || b != b {
		return a != a && b != b
	}
	return math.Float32bits(a) == math.Float32bits(b)
}

func sameParts(a, b complex64) bool {
	return sameBits(real(a), real(b)) && sameBits(imag(a), imag(b))
}

func sameNumbers(a, b []float32) bool {
	if len(a) != len(b) {
		return false
	}
	for i := range a {
		if !sameBits(a[i], b[i]) {
			return false
		}
	}
	return true
}

func sameComplexes(a, b []complex64) bool {
	if len(a) != len(b) {
		return false
	}
	for i := range a {
		if !sameParts(a[i], b[i]) {
			return false
		}
	}
	return true
}

func wantNumber(t *testing.T, what string, got, want float32) {
	t.Helper()
	if !sameBits(got, want) {
		t.Errorf("%s: got %v (%08x), want %v (%08x)", what, got, math.Float32bits(got), want, math.Float32bits(want))
	}
}

func wantComplex(t *testing.T, what string, got, want complex64) {
	t.Helper()
	wantNumber(t, what+", real part", real(got), real(want))
	wantNumber(t, what+", imaginary part", imag(got), imag(want))
}

func wantEqual[T comparable](t *testing.T, what string, got, want T) {
	t.Helper()
	if got != want {
		t.Errorf("%s: got %v, want %v", what, got, want)
	}
}

// oddNumbers are the edges of the 32-bit numbers, and some ordinary ones.
func oddNumbers() []float32 {
	list := []float32{1, 2, 0.5, 0.1, 3.5, 16777216, 1000000, notANumber(), fromBits(0x7fc00000), fromBits(0x7f800001)}
	for _, b := range []uint32{0x00000000, 0x00000001, 0x007fffff, 0x00800000, 0x7f7fffff, 0x7f800000, 0x59800000, 0x597fffff} {
		list = append(list, fromBits(b), fromBits(b|0x80000000))
	}
	for _, x := range []float32{1, 0.25, 0.5, 0.75, 1.5} {
		list = append(list, -x, x)
	}
	return list
}

func oddComplexes() []complex64 {
	var list []complex64
	for _, a := range oddNumbers() {
		for _, b := range oddNumbers() {
			list = append(list, complex(a, b))
		}
	}
	return list
}
