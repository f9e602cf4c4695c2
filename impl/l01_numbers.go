package impl

import (
	"math"
	"strconv"
	"strings"
)

// Limits of chapter 1.
const (
	MaxNumbers = 256
	MaxValue   = 1000000000000000
	MaxItems   = 64
	CheckSize  = 65003
)

// What the texts of lists are made of.
const (
	emptyList  = "none"
	between    = ","
	hexDigits  = 8
	nameLength = 8
)

// number stands for both kinds of numbers that lists of this chapter have.
type number interface {
	float32 | complex64
}

// In this file, a product that is added to something stands in an explicit
// conversion: without it, a compiler may fuse both and round only once.

// SameNumber reports whether two numbers are the same.
func SameNumber(a, b float32) bool {
	if a != a || b != b {
		return a != a && b != b
	}
	return a == b && hasSign(a) == hasSign(b)
}

func hasSign(x float32) bool {
	return math.Signbit(float64(x))
}

// IsFinite reports whether x is neither an infinity nor a not-a-number.
func IsFinite(x float32) bool {
	return isFiniteWide(float64(x))
}

func isFiniteWide(x float64) bool {
	return !math.IsInf(x, 0) && !math.IsNaN(x)
}

// BitsOf returns the bits of a number, the same ones for each not-a-number.
func BitsOf(x float32) int64 {
	if x != x {
		return 2143289344
	}
	return int64(math.Float32bits(x))
}

// FromBits returns the number with the given bits.
func FromBits(n int64) (float32, bool) {
	if n < 0 || n > math.MaxUint32 {
		return 0, false
	}
	return math.Float32frombits(uint32(n)), true
}

// NarrowNumber returns the nearest 32-bit number.
func NarrowNumber(x float64) float32 {
	return float32(x)
}

// IsSubnormal reports whether x is not zero and nearer to 0 than every normal number.
func IsSubnormal(x float32) bool {
	return x != 0 && math.Abs(float64(x)) < 0x1p-126
}

// FlushNumber returns x, but a zero with its sign if it is subnormal.
func FlushNumber(x float32) float32 {
	if IsSubnormal(x) {
		return float32(math.Copysign(0, float64(x)))
	}
	return x
}

// SameComplex reports whether both parts of two complex numbers are the same.
func SameComplex(a, b complex64) bool {
	return SameNumber(real(a), real(b)) && SameNumber(imag(a), imag(b))
}

// IsFiniteComplex reports whether both parts are finite.
func IsFiniteComplex(x complex64) bool {
	return IsFinite(real(x)) && IsFinite(imag(x))
}

// NarrowComplex returns a number with narrowed parts.
func NarrowComplex(x complex128) complex64 {
	return complex(NarrowNumber(real(x)), NarrowNumber(imag(x)))
}

// MulComplex returns a product.
func MulComplex(x, y complex64) complex64 {
	return NarrowComplex(wideProduct(x, y))
}

func wideProduct(x, y complex64) complex128 {
	a, b := float64(real(x)), float64(imag(x))
	c, d := float64(real(y)), float64(imag(y))
	return complex(float64(a*c)-float64(b*d), float64(a*d)+float64(b*c))
}

// ScaleComplex returns a product with a 32-bit number.
func ScaleComplex(x complex64, by float32) complex64 {
	return complex(float32(real(x)*by), float32(imag(x)*by))
}

// ConjugateOf returns the conjugate.
func ConjugateOf(x complex64) complex64 {
	return complex(real(x), -imag(x))
}

// PowerOf returns the power, narrowed.
func PowerOf(x complex64) float32 {
	return NarrowNumber(widePower(x))
}

func widePower(x complex64) float64 {
	a, b := float64(real(x)), float64(imag(x))
	return float64(a*a) + float64(b*b)
}

// LongOf returns the root of the power, which is not narrowed before.
func LongOf(x complex64) float32 {
	return NarrowNumber(math.Sqrt(widePower(x)))
}

// QuotientOf returns a quotient; a zero as y divides as IEEE 754 has it.
func QuotientOf(x, y complex64) complex64 {
	product := wideProduct(x, ConjugateOf(y))
	power := widePower(y)
	return NarrowComplex(complex(real(product)/power, imag(product)/power))
}

// RootNumber returns the square root, narrowed.
func RootNumber(x float32) float32 {
	return NarrowNumber(math.Sqrt(float64(x)))
}

// fullTurn is a function, as the package level has no floats.
func fullTurn() float64 {
	return 6.283185307179586
}

// isLongTurn tells turns so great that they have no places behind the point.
func isLongTurn(turns float64) bool {
	return math.Abs(turns) >= 1<<52
}

// partOfTurn returns what is behind the point, from 0 to 1, for turns that are
// not long. The integer goes through int64, where it has no sign if it is 0, so
// that -0 stays -0.
func partOfTurn(turns float64) float64 {
	f := turns - float64(int64(turns))
	if f < 0 {
		f++
	}
	return f
}

// sineOf returns the sine of turns that are not long.
func sineOf(turns float64) float64 {
	f := partOfTurn(turns)
	turned := f >= 0.5
	if turned {
		f -= 0.5
	}
	if f > 0.25 {
		f = 0.5 - f
	}
	z := float64(f * fullTurn())
	u := float64(z * z)
	p := 1.0
	for k := 8; k >= 1; k-- {
		p = 1 - float64(u*p)/float64(2*k*(2*k+1))
	}
	if turned {
		return -float64(z * p)
	}
	return float64(z * p)
}

// SineTurns returns the sine of some turns.
func SineTurns(x float32) float32 {
	turns := float64(x)
	if !isFiniteWide(turns) {
		return float32(math.NaN())
	}
	if isLongTurn(turns) {
		return 0
	}
	return NarrowNumber(sineOf(turns))
}

// PhasorOf returns a point of the unit circle.
func PhasorOf(turns float64) complex64 {
	if !isFiniteWide(turns) {
		nan := float32(math.NaN())
		return complex(nan, nan)
	}
	if isLongTurn(turns) {
		return 1
	}
	f := partOfTurn(turns)
	quarters := 0
	for f >= 0.25 {
		f -= 0.25
		quarters++
	}
	return NarrowComplex(turnQuarters(sineOf(0.25-f), sineOf(f), quarters))
}

// turnQuarters takes parts from 0 and does not negate them, so that no zero
// gets a sign.
func turnQuarters(c, s float64, quarters int) complex128 {
	switch quarters {
	case 1:
		return complex(0-s, c)
	case 2:
		return complex(0-c, 0-s)
	case 3:
		return complex(s, 0-c)
	}
	return complex(c, s)
}

// AngleOf returns the angle in turns.
func AngleOf(x complex64) float32 {
	return AngleTurns(imag(x), real(x))
}

// AngleTurns returns the angle of the point x, y in turns.
func AngleTurns(y, x float32) float32 {
	if !IsFinite(x) || !IsFinite(y) {
		return float32(math.NaN())
	}
	if x == 0 && y == 0 {
		return 0
	}
	a, b := math.Abs(float64(y)), math.Abs(float64(x))
	angle := steepAngle(a, b)
	if x < 0 {
		angle = 0.5 - angle
	}
	if y < 0 {
		angle = -angle
	}
	return NarrowNumber(angle)
}

// steepAngle returns the angle, from 0 to 0.25, of a point that is a high and b
// wide, at least one of which is greater than 0.
func steepAngle(a, b float64) float64 {
	if a > b {
		return 0.25 - flatAngle(b/a)
	}
	return flatAngle(a / b)
}

// flatAngle returns the angle with the tangent t, from 0 to 1. Each of the
// rounds halves the angle, so that few terms of the series are needed.
func flatAngle(t float64) float64 {
	for range 3 {
		t = t / (1 + math.Sqrt(1+float64(t*t)))
	}
	u := float64(t * t)
	p := 0.0
	for k := 15; k >= 1; k -= 2 {
		p = 1/float64(k) - float64(u*p)
	}
	return float64(8*float64(t*p)) / fullTurn()
}

// TenthsOf returns the tenths of decibels of a finite power greater than 0.
func TenthsOf(power float32) (int64, bool) {
	if !IsFinite(power) || power <= 0 {
		return 0, false
	}
	l := logarithmOf(float64(power))
	return int64(math.Floor(float64(l*43.42944819032518) + 0.5)), true
}

// logarithmOf returns the natural logarithm of a finite number greater than 0.
func logarithmOf(x float64) float64 {
	halvings := 0
	for x >= 1.5 {
		x /= 2
		halvings++
	}
	for x < 0.75 {
		x *= 2
		halvings--
	}
	s := (x - 1) / (x + 1)
	u := float64(s * s)
	q := 0.0
	for k := 25; k >= 1; k -= 2 {
		q = 1/float64(k) + float64(u*q)
	}
	return float64(2*float64(s*q)) + float64(float64(halvings)*0.6931471805599453)
}

// SumNumbers returns the sum from left to right.
func SumNumbers(list []float32) (float32, bool) {
	return sumOf(list)
}

// DotNumbers returns the sum of products, each of which is rounded.
func DotNumbers(a, b []float32) (float32, bool) {
	return dotOf(a, b, mulNumber)
}

func mulNumber(x, y float32) float32 {
	return float32(x * y)
}

// SumComplex returns the sum from left to right.
func SumComplex(list []complex64) (complex64, bool) {
	return sumOf(list)
}

// DotComplex returns the sum of products.
func DotComplex(a, b []complex64) (complex64, bool) {
	return dotOf(a, b, MulComplex)
}

// DotConjugate returns the sum of products with conjugates of the first list.
func DotConjugate(a, b []complex64) (complex64, bool) {
	return dotOf(a, b, mulConjugate)
}

func mulConjugate(x, y complex64) complex64 {
	return MulComplex(ConjugateOf(x), y)
}

func sumOf[T number](list []T) (T, bool) {
	var sum T
	if len(list) > MaxNumbers {
		return sum, false
	}
	for _, x := range list {
		sum += x
	}
	return sum, true
}

func dotOf[T number](a, b []T, product func(x, y T) T) (T, bool) {
	var sum T
	if len(a) > MaxNumbers || len(a) != len(b) {
		return sum, false
	}
	for i, x := range a {
		sum += product(x, b[i])
	}
	return sum, true
}

// PowersOf returns the sum of powers, which is narrowed only in the end.
func PowersOf(list []complex64) (float32, bool) {
	if len(list) > MaxNumbers {
		return 0, false
	}
	sum := 0.0
	for _, x := range list {
		sum += widePower(x)
	}
	return NarrowNumber(sum), true
}

// NumbersText returns the text of numbers.
func NumbersText(list []float32) (string, bool) {
	return joinTexts(list, MaxNumbers, between, numberText)
}

// ReadNumbers returns the numbers with the given text.
func ReadNumbers(s string) ([]float32, bool) {
	return readTexts(s, MaxNumbers, between, readNumber)
}

// ComplexText returns the text of complex numbers.
func ComplexText(list []complex64) (string, bool) {
	return joinTexts(list, MaxNumbers, between, complexText)
}

// ReadComplex returns the complex numbers with the given text.
func ReadComplex(s string) ([]complex64, bool) {
	return readTexts(s, MaxNumbers, between, readComplexNumber)
}

func numberText(x float32) string {
	digits := strconv.FormatInt(BitsOf(x), 16)
	return strings.Repeat("0", hexDigits-len(digits)) + digits
}

// readNumber compares with the text again, as this has neither capital digits
// nor the bits of other not-a-numbers.
func readNumber(word string) (float32, bool) {
	n, err := strconv.ParseUint(word, 16, 32)
	if err != nil {
		return 0, false
	}
	x := math.Float32frombits(uint32(n))
	return x, numberText(x) == word
}

func complexText(x complex64) string {
	return numberText(real(x)) + numberText(imag(x))
}

func readComplexNumber(word string) (complex64, bool) {
	if len(word) != 2*hexDigits {
		return 0, false
	}
	a, aRead := readNumber(word[:hexDigits])
	b, bRead := readNumber(word[hexDigits:])
	return complex(a, b), aRead && bRead
}

func joinTexts[T any](list []T, most int, separator string, textOf func(x T) string) (string, bool) {
	if len(list) > most {
		return "", false
	}
	if len(list) == 0 {
		return emptyList, true
	}
	words := make([]string, len(list))
	for i, x := range list {
		words[i] = textOf(x)
	}
	return strings.Join(words, separator), true
}

// readTexts counts the words first, so that a long text takes no memory.
func readTexts[T any](s string, most int, separator string, read func(word string) (T, bool)) ([]T, bool) {
	if s == emptyList {
		return nil, true
	}
	if strings.Count(s, separator) >= most {
		return nil, false
	}
	var list []T
	for _, word := range strings.Split(s, separator) {
		x, ok := read(word)
		if !ok {
			return nil, false
		}
		list = append(list, x)
	}
	return list, true
}

// IsName reports whether s is a name.
func IsName(s string) bool {
	if len(s) < 1 || len(s) > nameLength {
		return false
	}
	for i := range len(s) {
		if s[i] < 'a' || s[i] > 'z' {
			return false
		}
	}
	return true
}

// Decimal returns n in decimal.
func Decimal(n int64) string {
	return strconv.FormatInt(n, 10)
}

// ReadDecimal returns the number with the given decimal text.
func ReadDecimal(s string) (int64, bool) {
	n, err := strconv.ParseInt(s, 10, 64)
	if err != nil || !isValue(n) || Decimal(n) != s {
		return 0, false
	}
	return n, true
}

func isValue(n int64) bool {
	return n >= -MaxValue && n <= MaxValue
}

// ListText returns the text of a list of integers.
func ListText(list []int64) (string, bool) {
	for _, n := range list {
		if !isValue(n) {
			return "", false
		}
	}
	return joinTexts(list, MaxItems, between, Decimal)
}

// ReadList returns the list of integers with the given text.
func ReadList(s string) ([]int64, bool) {
	return readTexts(s, MaxItems, between, ReadDecimal)
}

// CheckOf returns the check number of a text that begins with start.
func CheckOf(start int64, s string) (int64, bool) {
	if start < 0 || start >= CheckSize {
		return 0, false
	}
	check := start
	for i := range len(s) {
		check = (719*check + int64(s[i]) + 53) % CheckSize
	}
	return check, true
}
