package tests

import (
	"fmt"
	"math"
	"slices"
	"strings"
	"testing"

	"loop.example/g01226/impl"
)

func TestNumbersText(t *testing.T) {
	for _, c := range []struct {
		list []float32
		text string
	}{
		{nil, "none"},
		{[]float32{}, "none"},
		{[]float32{1}, "3f800000"},
		{[]float32{1, -2}, "3f800000,c0000000"},
		{[]float32{0, minusZero(), fromBits(1), -fromBits(1)}, "00000000,80000000,00000001,80000001"},
		{[]float32{infinity(), -infinity()}, "7f800000,ff800000"},
		{[]float32{fromBits(0x7f800001), fromBits(0xffffffff)}, "7fc00000,7fc00000"},
		{[]float32{fromBits(0x0abcdef9)}, "0abcdef9"},
		{repeated(float32(1), 256), strings.Repeat("3f800000,", 255) + "3f800000"},
	} {
		text, ok := impl.NumbersText(c.list)
		wantEqual(t, fmt.Sprintf("NumbersText(%v)", c.list), text, c.text)
		wantEqual(t, fmt.Sprintf("NumbersText(%v) succeeds", c.list), ok, true)
		list, ok := impl.ReadNumbers(c.text)
		if !ok || !sameNumbers(list, c.list) {
			t.Errorf("ReadNumbers(%q): got %v, %v, want %v", c.text, list, ok, c.list)
		}
	}
}

func TestComplexText(t *testing.T) {
	for _, c := range []struct {
		list []complex64
		text string
	}{
		{nil, "none"},
		{[]complex64{}, "none"},
		{[]complex64{1}, "3f80000000000000"},
		{[]complex64{1, complex(0, -2)}, "3f80000000000000,00000000c0000000"},
		{[]complex64{complex(minusZero(), fromBits(1))}, "8000000000000001"},
		{[]complex64{complex(infinity(), fromBits(0xffffffff))}, "7f8000007fc00000"},
		{[]complex64{complex(fromBits(0x0abcdef9), 1)}, "0abcdef93f800000"},
		{repeated(complex64(1), 256), strings.Repeat("3f80000000000000,", 255) + "3f80000000000000"},
	} {
		text, ok := impl.ComplexText(c.list)
		wantEqual(t, fmt.Sprintf("ComplexText(%v)", c.list), text, c.text)
		wantEqual(t, fmt.Sprintf("ComplexText(%v) succeeds", c.list), ok, true)
		list, ok := impl.ReadComplex(c.text)
		if !ok || !sameComplexes(list, c.list) {
			t.Errorf("ReadComplex(%q): got %v, %v, want %v", c.text, list, ok, c.list)
		}
	}
}

func TestTextsOfTooLongLists(t *testing.T) {
	text, ok := impl.NumbersText(repeated(float32(1), 257))
	wantEqual(t, "NumbersText of 257", text, "")
	wantEqual(t, "NumbersText of 257 succeeds", ok, false)
	text, ok = impl.ComplexText(repeated(complex64(1), 257))
	wantEqual(t, "ComplexText of 257", text, "")
	wantEqual(t, "ComplexText of 257 succeeds", ok, false)
	text, ok = impl.ListText(repeated(int64(1), 65))
	wantEqual(t, "ListText of 65", text, "")
	wantEqual(t, "ListText of 65 succeeds", ok, false)
}

func wantNoNumbers(t *testing.T, s string) {
	t.Helper()
	if list, ok := impl.ReadNumbers(s); ok || len(list) != 0 {
		t.Errorf("ReadNumbers(%.60q): got %v, %v, want a failure", s, list, ok)
	}
}

func wantNoComplex(t *testing.T, s string) {
	t.Helper()
	if list, ok := impl.ReadComplex(s); ok || len(list) != 0 {
		t.Errorf("ReadComplex(%.60q): got %v, %v, want a failure", s, list, ok)
	}
}

// spoilt are words of eight digits that are the text of no number.
func spoilt() []string {
	return []string{
		"", " ", "None", "none ", "nonenone", "3F800000", "3f80000", "3f8000000", "03f800000", "3f80000g", "+3f80000", "-3f80000",
		"0x3f8000", "3f80_000", " 3f80000", "3f80000 ", "3f800000\n", "\x00\x00\x00\x00\x00\x00\x00\x00", "ääää",
		"7fc00001", "7f800001", "ffc00000", "7fffffff", "ffffffff", "7FC00000", "3f800000;3f800000", "3f800000 ", " 3f800000",
	}
}

func TestReadNumbersFails(t *testing.T) {
	for _, word := range spoilt() {
		for _, s := range []string{word, word + ",3f800000", "3f800000," + word, "3f800000," + word + ",3f800000"} {
			wantNoNumbers(t, s)
		}
	}
	for _, s := range []string{",", ",,", "none,none", "none,3f800000", "3f800000,none", "3f800000, 3f800000", "3f80000000000000"} {
		wantNoNumbers(t, s)
	}
	wantNoNumbers(t, strings.Repeat("3f800000,", 256)+"3f800000")
	wantNoNumbers(t, strings.Repeat(",", 100000))
}

func TestReadComplexFails(t *testing.T) {
	one := "3f80000000000000"
	for _, word := range spoilt() {
		for _, s := range []string{word, "3f800000" + word, word + "3f800000", one + "," + word, word + "," + one} {
			wantNoComplex(t, s)
		}
	}
	for _, s := range []string{",", "none," + one, one + ",none", one + one, one + "0", "0" + one, "3f800000,00000000", "3f8000000000000", "3F80000000000000"} {
		wantNoComplex(t, s)
	}
	wantNoComplex(t, strings.Repeat(one+",", 256)+one)
	wantNoComplex(t, strings.Repeat(",", 100000))
}

func TestTextsOfOddNumbersLeadBack(t *testing.T) {
	for _, x := range oddComplexes() {
		text, _ := impl.ComplexText([]complex64{x, 1})
		list, ok := impl.ReadComplex(text)
		if !ok || !sameComplexes(list, []complex64{x, 1}) {
			t.Errorf("text of %v: got %v, %v, back from %q", x, list, ok, text)
		}
		wantEqual(t, fmt.Sprintf("text of %v", x), text, fmt.Sprintf("%08x%08x,3f80000000000000", impl.BitsOf(real(x)), impl.BitsOf(imag(x))))
	}
}

func TestIsName(t *testing.T) {
	for _, s := range []string{"a", "z", "ring", "abcdefgh", "zzzzzzzz"} {
		wantEqual(t, fmt.Sprintf("IsName(%q)", s), impl.IsName(s), true)
	}
	for _, s := range []string{"", "abcdefghi", "A", "Ring", "rinG", "a1", "1a", "a b", " a", "a ", "`", "{", "a-b", "ä", "a\x00", "a\n", "\xff", strings.Repeat("a", 1000)} {
		wantEqual(t, fmt.Sprintf("IsName(%.20q)", s), impl.IsName(s), false)
	}
}

func TestDecimal(t *testing.T) {
	for _, c := range []struct {
		n    int64
		text string
	}{
		{0, "0"}, {1, "1"}, {-1, "-1"}, {-4, "-4"}, {10, "10"}, {-100, "-100"}, {1234567890, "1234567890"},
		{1000000000000000, "1000000000000000"}, {-1000000000000000, "-1000000000000000"},
	} {
		wantEqual(t, "Decimal", impl.Decimal(c.n), c.text)
		n, ok := impl.ReadDecimal(c.text)
		wantEqual(t, fmt.Sprintf("ReadDecimal(%q)", c.text), n, c.n)
		wantEqual(t, fmt.Sprintf("ReadDecimal(%q) succeeds", c.text), ok, true)
	}
	wantEqual(t, "Decimal beyond MaxValue", impl.Decimal(1000000000000001), "1000000000000001")
	wantEqual(t, "Decimal of the least integer", impl.Decimal(math.MinInt64), "-9223372036854775808")
	wantEqual(t, "Decimal of the greatest integer", impl.Decimal(math.MaxInt64), "9223372036854775807")
}

// notDecimals are the decimal texts of no number from -MaxValue to MaxValue.
func notDecimals() []string {
	return []string{
		"", "-", "+", "+1", "-0", "+0", "00", "01", "-01", "--1", " 1", "1 ", "-1 ", "- 1", "1.0", "1e3", "0x1", "1_000", "a", "1a", "none", "1\n", "\x001", "１",
		"1000000000000001", "-1000000000000001", "9223372036854775807", "-9223372036854775808", "9223372036854775808", "18446744073709551617", strings.Repeat("9", 1000),
	}
}

func TestReadDecimalFails(t *testing.T) {
	for _, s := range notDecimals() {
		n, ok := impl.ReadDecimal(s)
		wantEqual(t, fmt.Sprintf("ReadDecimal(%.40q)", s), n, 0)
		wantEqual(t, fmt.Sprintf("ReadDecimal(%.40q) succeeds", s), ok, false)
	}
}

func TestListText(t *testing.T) {
	for _, c := range []struct {
		list []int64
		text string
	}{
		{nil, "none"},
		{[]int64{}, "none"},
		{[]int64{0}, "0"},
		{[]int64{5, -2, 5, 0}, "5,-2,5,0"},
		{[]int64{1000000000000000, -1000000000000000}, "1000000000000000,-1000000000000000"},
		{repeated(int64(-7), 64), strings.Repeat("-7,", 63) + "-7"},
	} {
		text, ok := impl.ListText(c.list)
		wantEqual(t, fmt.Sprintf("ListText(%v)", c.list), text, c.text)
		wantEqual(t, fmt.Sprintf("ListText(%v) succeeds", c.list), ok, true)
		list, ok := impl.ReadList(c.text)
		if !ok || !slices.Equal(list, c.list) {
			t.Errorf("ReadList(%q): got %v, %v, want %v", c.text, list, ok, c.list)
		}
	}
}

func TestListTextFails(t *testing.T) {
	for _, list := range [][]int64{{1000000000000001}, {-1000000000000001}, {1, 2, math.MaxInt64}, {math.MinInt64, 1}} {
		text, ok := impl.ListText(list)
		wantEqual(t, fmt.Sprintf("ListText(%v)", list), text, "")
		wantEqual(t, fmt.Sprintf("ListText(%v) succeeds", list), ok, false)
	}
}

func wantNoList(t *testing.T, s string) {
	t.Helper()
	if list, ok := impl.ReadList(s); ok || len(list) != 0 {
		t.Errorf("ReadList(%.60q): got %v, %v, want a failure", s, list, ok)
	}
}

func TestReadListFails(t *testing.T) {
	for _, word := range notDecimals() {
		if word != "none" {
			wantNoList(t, word)
		}
		wantNoList(t, word+",1")
		wantNoList(t, "1,"+word)
		wantNoList(t, "1,"+word+",1")
	}
	for _, s := range []string{",", ",,", "1, 2", "1;2", "None", "none,", "none,none"} {
		wantNoList(t, s)
	}
	wantNoList(t, strings.Repeat("1,", 64)+"1")
	wantNoList(t, strings.Repeat(",", 100000))
}

func TestCheckOf(t *testing.T) {
	for _, c := range []struct {
		start int64
		s     string
		want  int64
	}{
		{0, "", 0},
		{1, "", 1},
		{65002, "", 65002},
		{0, "a", 150},
		{0, "ab", 42998},
		{0, "ba", 43716},
		{65002, "a", 64434},
		{0, "\x00", 53},
		{0, "\xff", 308},
		{0, "\xff\xfe\x00abc", 56097},
		{12345, "Teilchen \xc3\xa4", 46187},
		{0, strings.Repeat("a", 1000), 63850},
	} {
		check, ok := impl.CheckOf(c.start, c.s)
		wantEqual(t, fmt.Sprintf("CheckOf(%d, %.20q)", c.start, c.s), check, c.want)
		wantEqual(t, fmt.Sprintf("CheckOf(%d, %.20q) succeeds", c.start, c.s), ok, true)
	}
	for _, start := range []int64{-1, 65003, math.MinInt64, math.MaxInt64} {
		check, ok := impl.CheckOf(start, "a")
		wantEqual(t, fmt.Sprintf("CheckOf(%d)", start), check, 0)
		wantEqual(t, fmt.Sprintf("CheckOf(%d) succeeds", start), ok, false)
	}
}

func TestChecksGoOn(t *testing.T) {
	text := "shares add up to one, nearly\x00\xff"
	whole, _ := impl.CheckOf(7, text)
	for i := range len(text) {
		first, _ := impl.CheckOf(7, text[:i])
		second, _ := impl.CheckOf(first, text[i:])
		wantEqual(t, fmt.Sprintf("check number made in two parts, divided at %d", i), second, whole)
	}
}
