package tests

import (
	"fmt"
	"math"
	"slices"
	"strings"
	"testing"

	"loop.example/g01226/impl"
)

// withRoom returns a copy of a list with room behind it, and the whole of both,
// so that a write into the unused capacity is seen.
func withRoom[T any](list []T, filler T) (part, whole []T) {
	whole = append(slices.Clone(list), filler, filler, filler)
	return whole[:len(list)], whole
}

// numberCalls tell what all functions with lists of numbers return for a and b.
func numberCalls(a, b []float32) string {
	sum, one := impl.SumNumbers(a)
	dot, two := impl.DotNumbers(a, b)
	text, three := impl.NumbersText(a)
	return fmt.Sprint(impl.BitsOf(sum), one, impl.BitsOf(dot), two, text, three)
}

func complexCalls(a, b []complex64) string {
	sum, one := impl.SumComplex(a)
	dot, two := impl.DotComplex(a, b)
	conjugate, three := impl.DotConjugate(a, b)
	powers, four := impl.PowersOf(a)
	text, five := impl.ComplexText(a)
	return fmt.Sprint(complexBits(sum), one, complexBits(dot), two, complexBits(conjugate), three, impl.BitsOf(powers), four, text, five)
}

func complexBits(x complex64) [2]int64 {
	return [2]int64{impl.BitsOf(real(x)), impl.BitsOf(imag(x))}
}

func TestListsOfNumbersStayUnchanged(t *testing.T) {
	source := oddNumbers()
	turned := slices.Clone(source)
	slices.Reverse(turned)
	for n := 0; n <= len(source); n++ {
		a, wholeA := withRoom(source[:n], 77)
		b, wholeB := withRoom(turned[:n], 78)
		keptA, keptB := slices.Clone(wholeA), slices.Clone(wholeB)
		first := numberCalls(a, b)
		numberCalls(b, a)
		wantEqual(t, "a second call with numbers", numberCalls(slices.Clone(a), slices.Clone(b)), first)
		if !equalBits(wholeA, keptA) || !equalBits(wholeB, keptB) {
			t.Fatalf("a list of %d numbers has been changed", n)
		}
	}
}

func TestListsOfComplexNumbersStayUnchanged(t *testing.T) {
	source := oddComplexes()
	for n := 0; n+300 < len(source); n += 37 {
		a, wholeA := withRoom(source[n:n+n%257], complex(77, 78))
		b, wholeB := withRoom(source[n+1:n+1+n%257], complex(79, 80))
		keptA, keptB := slices.Clone(wholeA), slices.Clone(wholeB)
		first := complexCalls(a, b)
		complexCalls(b, a)
		wantEqual(t, "a second call with complex numbers", complexCalls(slices.Clone(a), slices.Clone(b)), first)
		if !sameComplexes(wholeA, keptA) || !sameComplexes(wholeB, keptB) {
			t.Fatalf("a list of %d complex numbers has been changed", n%257)
		}
	}
}

func TestListsOfIntegersStayUnchanged(t *testing.T) {
	for _, source := range [][]int64{{3, 1, 2}, {}, {5, 5, -5}, {math.MaxInt64}, repeated(int64(4), 65)} {
		list, whole := withRoom(source, 77)
		kept := slices.Clone(whole)
		first, ok := impl.ListText(list)
		second, okAgain := impl.ListText(slices.Clone(list))
		wantEqual(t, "a second ListText", second, first)
		wantEqual(t, "a second ListText succeeds", okAgain, ok)
		if !slices.Equal(whole, kept) {
			t.Errorf("the list %v has been changed to %v", kept, whole)
		}
	}
}

// equalBits tells not-a-numbers with other bits apart.
func equalBits(a, b []float32) bool {
	return slices.EqualFunc(a, b, func(x, y float32) bool { return math.Float32bits(x) == math.Float32bits(y) })
}

// spoil overwrites a list with its whole capacity.
func spoil[T any](list []T, with T) {
	list = list[:cap(list)]
	for i := range list {
		list[i] = with
	}
}

func TestReadListsAreNew(t *testing.T) {
	first, _ := impl.ReadNumbers("3f800000,c0000000")
	spoil(first, 9)
	second, _ := impl.ReadNumbers("3f800000,c0000000")
	if !sameNumbers(second, []float32{1, -2}) {
		t.Errorf("ReadNumbers shares its result with an earlier one: %v", second)
	}
	numbers, _ := impl.ReadComplex("3f80000000000000,00000000c0000000")
	spoil(numbers, 9)
	again, _ := impl.ReadComplex("3f80000000000000,00000000c0000000")
	if !sameComplexes(again, []complex64{1, complex(0, -2)}) {
		t.Errorf("ReadComplex shares its result with an earlier one: %v", again)
	}
	integers, _ := impl.ReadList("5,-2,0")
	spoil(integers, 9)
	others, _ := impl.ReadList("5,-2,0")
	if !slices.Equal(others, []int64{5, -2, 0}) {
		t.Errorf("ReadList shares its result with an earlier one: %v", others)
	}
}

func TestEmptyResultsAreNew(t *testing.T) {
	for range 2 {
		numbers, one := impl.ReadNumbers("none")
		complexes, two := impl.ReadComplex("none")
		integers, three := impl.ReadList("none")
		if len(numbers)+len(complexes)+len(integers) != 0 || !one || !two || !three {
			t.Errorf("texts of no numbers: got %v, %v, %v", numbers, complexes, integers)
		}
		_, _, _ = append(numbers, 1), append(complexes, 1), append(integers, 1)
	}
}

// oneCalls tell what all functions of one or two numbers return.
func oneCalls(x, y complex64) string {
	a, b := real(x), imag(x)
	number, one := impl.FromBits(impl.BitsOf(a))
	tenths, two := impl.TenthsOf(a)
	return fmt.Sprint(
		impl.SameNumber(a, b), impl.IsFinite(a), impl.BitsOf(a), impl.BitsOf(number), one, impl.IsSubnormal(a), impl.BitsOf(impl.FlushNumber(a)),
		impl.BitsOf(impl.NarrowNumber(float64(a)/3)), impl.SameComplex(x, y), impl.IsFiniteComplex(x),
		complexBits(impl.NarrowComplex(complex(float64(a)/3, float64(b)*3))), complexBits(impl.MulComplex(x, y)), complexBits(impl.ScaleComplex(x, b)),
		complexBits(impl.ConjugateOf(x)), impl.BitsOf(impl.PowerOf(x)), impl.BitsOf(impl.LongOf(x)), complexBits(impl.QuotientOf(x, y)),
		complexBits(impl.PhasorOf(float64(a)/3)), impl.BitsOf(impl.AngleOf(x)), impl.BitsOf(impl.SineTurns(a)), impl.BitsOf(impl.AngleTurns(b, a)),
		tenths, two, impl.BitsOf(impl.RootNumber(a)),
	)
}

func TestEveryNumberHasResultsAlwaysTheSame(t *testing.T) {
	all := oddComplexes()
	results := make([]string, len(all))
	for i, x := range all {
		results[i] = oneCalls(x, all[(i*7+3)%len(all)])
	}
	for i := len(all) - 1; i >= 0; i-- {
		wantEqual(t, fmt.Sprintf("a second call with %v", all[i]), oneCalls(all[i], all[(i*7+3)%len(all)]), results[i])
	}
}

// A not-a-number with other bits is an equal argument.
func TestAllNotANumbersAreOneArgument(t *testing.T) {
	for _, x := range oddNumbers() {
		for _, bits := range []uint32{0x7f800001, 0xffc00000, 0xffffffff} {
			one, other := fromBits(0x7fc00000), fromBits(bits)
			wantEqual(t, "results of equal first parts", oneCalls(complex(other, x), 1), oneCalls(complex(one, x), 1))
			wantEqual(t, "results of equal second parts", oneCalls(complex(x, other), 1), oneCalls(complex(x, one), 1))
		}
	}
}

// textCalls tell what all functions with texts return.
func textCalls(s string) string {
	numbers, one := impl.ReadNumbers(s)
	complexes, two := impl.ReadComplex(s)
	integers, three := impl.ReadList(s)
	n, four := impl.ReadDecimal(s)
	check, five := impl.CheckOf(11, s)
	return fmt.Sprint(numbers, one, complexes, two, integers, three, n, four, check, five, impl.IsName(s))
}

func TestEveryTextHasResultsAlwaysTheSame(t *testing.T) {
	texts := []string{"", "none", "ring", "1,2,3", "-5", "3f800000", "3f80000000000000,00000000c0000000", "\xff\xfe", strings.Repeat("x,", 100000)}
	for n := range 256 {
		texts = append(texts, string([]byte{byte(n)}), string([]byte{'1', ',', byte(n)}), "3f80000"+string([]byte{byte(n)}))
	}
	results := make([]string, len(texts))
	for i, s := range texts {
		results[i] = textCalls(s)
	}
	for i := len(texts) - 1; i >= 0; i-- {
		wantEqual(t, fmt.Sprintf("a second call with %.40q", texts[i]), textCalls(texts[i]), results[i])
	}
}
