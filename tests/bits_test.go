package tests

import (
	"math"
	"strings"
	"testing"

	"loop.example/g00031/impl"
)

const letters = "01xz"

// allVectors has every vector of a width.
func allVectors(width int) []string {
	list := []string{""}
	for i := 0; i < width; i++ {
		var longer []string
		for _, v := range list {
			for j := range len(letters) {
				longer = append(longer, v+letters[j:j+1])
			}
		}
		list = longer
	}
	return list
}

// wrongTexts are no vectors.
func wrongTexts() []string {
	return []string{
		"", " ", "2", "X", "Z", "01 ", " 01", "0b1", "1_0", "10\n", "\x00", "\xff", "x\u00e9", "01-",
		strings.Repeat("0", impl.MaxWidth+1), strings.Repeat("x", impl.MaxText), strings.Repeat("1", impl.MaxText+1),
	}
}

func wants(t *testing.T, what, got, want string) {
	t.Helper()
	if got != want {
		t.Errorf("%s: %q, not %q", what, got, want)
	}
}

func TestOperationNumbers(t *testing.T) {
	ops := []int{
		impl.OpAnd, impl.OpOr, impl.OpXor, impl.OpAdd, impl.OpSub, impl.OpMul, impl.OpDiv, impl.OpRem, impl.OpEq, impl.OpNe, impl.OpSame, impl.OpLt, impl.OpLe,
		impl.OpShl, impl.OpShr, impl.OpSar, impl.OpBoth, impl.OpEither, impl.OpNot, impl.OpNeg, impl.OpAll, impl.OpAny, impl.OpOdd, impl.OpNone,
	}
	for i, op := range ops {
		if op != i+1 {
			t.Errorf("operation %d has the number %d", i+1, op)
		}
	}
	if impl.MaxWidth != 64 || impl.MaxText != 65536 || impl.MaxList != 4096 {
		t.Error("limits")
	}
}

func TestBitsOK(t *testing.T) {
	good := []string{"0", "1", "x", "z", "01xz", strings.Repeat("z", impl.MaxWidth), strings.Repeat("10", impl.MaxWidth/2)}
	for _, a := range good {
		if !impl.BitsOK(a) {
			t.Errorf("%q is a vector", a)
		}
	}
	for _, a := range wrongTexts() {
		if impl.BitsOK(a) {
			t.Errorf("%q is no vector", a)
		}
	}
}

func TestBitsOf(t *testing.T) {
	full := strings.Repeat("1", impl.MaxWidth)
	for _, c := range []struct {
		v, width int
		want     string
	}{
		{0, 1, "0"}, {1, 1, "1"}, {-1, 1, "1"}, {2, 1, "0"}, {10, 4, "1010"}, {10, 6, "001010"}, {-6, 4, "1010"}, {-6, 6, "111010"},
		{-1, 64, full}, {math.MaxInt, 64, "0" + full[1:]}, {math.MinInt, 64, "1" + strings.Repeat("0", 63)}, {math.MinInt, 63, strings.Repeat("0", 63)},
		{5, 0, ""}, {5, -1, ""}, {5, 65, ""}, {5, math.MaxInt, ""}, {5, math.MinInt, ""},
	} {
		wants(t, "BitsOf", impl.BitsOf(c.v, c.width), c.want)
	}
}

func TestIntOf(t *testing.T) {
	full := strings.Repeat("1", impl.MaxWidth)
	least := "1" + strings.Repeat("0", 63)
	for _, c := range []struct {
		a      string
		signed bool
		want   int
	}{
		{"0", false, 0}, {"1", false, 1}, {"1", true, -1}, {"01", true, 1}, {"10", true, -2}, {"10", false, 2}, {"0111", true, 7}, {"1000", true, -8},
		{full, false, -1}, {full, true, -1}, {least, false, math.MinInt}, {least, true, math.MinInt}, {full[1:], false, math.MaxInt}, {full[1:], true, -1},
	} {
		if v, ok := impl.IntOf(c.a, c.signed); !ok || v != c.want {
			t.Errorf("IntOf(%q, %v): %d, %v", c.a, c.signed, v, ok)
		}
	}
	for _, a := range append(wrongTexts(), "x", "z", "1x", "z0", full[1:]+"x") {
		for _, signed := range []bool{false, true} {
			if v, ok := impl.IntOf(a, signed); ok || v != 0 {
				t.Errorf("IntOf(%q, %v): %d, %v", a, signed, v, ok)
			}
		}
	}
}

func TestIntOfComesBack(t *testing.T) {
	for width := 1; width <= impl.MaxWidth; width++ {
		for _, v := range []int{0, 1, 2, 3, -1, -2, -3, math.MaxInt, math.MinInt, 0x5555555555555555, 0x123456789abcdef} {
			up := impl.MaxWidth - width
			if got, ok := impl.IntOf(impl.BitsOf(v, width), true); !ok || got != v<<up>>up {
				t.Errorf("%d of %d bits: %d, %v", v, width, got, ok)
			}
			if got, ok := impl.IntOf(impl.BitsOf(v, width), false); !ok || got != int(uint64(v)<<up>>up) {
				t.Errorf("%d of %d bits without a sign: %d, %v", v, width, got, ok)
			}
		}
	}
}

func TestResize(t *testing.T) {
	long := strings.Repeat("10xz", 16)
	for _, c := range []struct {
		a      string
		width  int
		signed bool
		want   string
	}{
		{"1", 1, true, "1"}, {"1", 3, false, "001"}, {"1", 3, true, "111"}, {"0", 3, true, "000"}, {"z1", 4, true, "zzz1"}, {"z1", 4, false, "00z1"}, {"x", 2, true, "xx"}, {"x", 2, false, "0x"},
		{"1x0z", 4, true, "1x0z"}, {"1x0z", 3, true, "x0z"}, {"1x0z", 1, false, "z"}, {long, 64, false, long}, {long, 63, true, long[1:]},
		{"1", 64, true, strings.Repeat("1", 64)}, {"1", 64, false, strings.Repeat("0", 63) + "1"},
		{"1", 0, true, ""}, {"1", -1, false, ""}, {"1", 65, false, ""}, {"1", math.MaxInt, true, ""}, {"1", math.MinInt, true, ""},
	} {
		wants(t, "Resize", impl.Resize(c.a, c.width, c.signed), c.want)
	}
}

func TestPart(t *testing.T) {
	long := strings.Repeat("1z0x", 16)
	unknown := strings.Repeat("x", 64)
	for _, c := range []struct {
		a         string
		high, low int
		want      string
	}{
		{"10zx", 3, 0, "10zx"}, {"10zx", 3, 3, "1"}, {"10zx", 1, 0, "zx"}, {"10zx", 2, 1, "0z"}, {long, 63, 0, long}, {long, 63, 63, "1"},
		{"10z1", 4, 0, "x10z1"}, {"10z1", 5, 3, "xx1"}, {"10z1", 1, -2, "z1xx"}, {"10z1", 4, -1, "x10z1x"}, {"1", 9, 8, "xx"}, {"1", -1, -3, "xxx"}, {long, 64, 1, "x" + long[:63]}, {long, 62, -1, long[1:] + "x"},
		{"1", 63, 0, unknown[1:] + "1"}, {"1", 0, -63, "1" + unknown[1:]}, {"1", 64, 1, unknown}, {long, math.MaxInt, math.MaxInt, "x"}, {long, math.MinInt, math.MinInt, "x"},
		{long, math.MaxInt, math.MaxInt - 63, unknown}, {long, math.MinInt + 63, math.MinInt, unknown},
		{"10", 0, 1, ""}, {"1", 64, 0, ""}, {"1", 32, -32, ""}, {"1", math.MaxInt, math.MinInt, ""}, {"1", math.MinInt, math.MaxInt, ""}, {"1", math.MaxInt, math.MaxInt - 64, ""}, {"1", math.MaxInt, 0, ""}, {"1", 0, math.MinInt, ""}, {"1", math.MaxInt, -1, ""},
	} {
		wants(t, "Part", impl.Part(c.a, c.high, c.low), c.want)
	}
}

func TestJoin(t *testing.T) {
	long := strings.Repeat("x", 64)
	ones := make([]string, 65)
	for i := range ones {
		ones[i] = "1"
	}
	for _, c := range []struct {
		list []string
		want string
	}{
		{[]string{"1"}, "1"}, {[]string{"1", "0", "xz"}, "10xz"}, {[]string{"z", "01"}, "z01"}, {[]string{long}, long}, {[]string{long[:63], "0"}, long[:63] + "0"}, {ones[:64], strings.Repeat("1", 64)},
		{nil, ""}, {[]string{}, ""}, {ones, ""}, {[]string{long, "0"}, ""}, {[]string{"1", ""}, ""}, {[]string{"", "1"}, ""}, {[]string{"1", "2"}, ""}, {[]string{"1", long + "0"}, ""}, {make([]string, impl.MaxList+1), ""},
	} {
		wants(t, "Join", impl.Join(c.list), c.want)
	}
}

func TestResolve(t *testing.T) {
	many := make([]string, impl.MaxList+1)
	for i := range many {
		many[i] = "z1"
	}
	for _, c := range []struct {
		list []string
		want string
	}{
		{[]string{"01xz"}, "01xz"}, {[]string{"01xz", "zzzz"}, "01xz"}, {[]string{"01xz", "01xz"}, "01xz"}, {[]string{"01xz", "1010"}, "xxx0"}, {[]string{"z", "z", "z"}, "z"}, {[]string{"z", "1", "z"}, "1"},
		{[]string{"0", "1", "0"}, "x"}, {[]string{"0", "1", "z"}, "x"}, {[]string{"x", "1"}, "x"}, {[]string{"z", "x"}, "x"}, {[]string{"x", "x"}, "x"}, {many[:impl.MaxList], "z1"},
		{[]string{strings.Repeat("z", 64), strings.Repeat("10", 32)}, strings.Repeat("10", 32)},
		{nil, ""}, {[]string{}, ""}, {many, ""}, {[]string{"1", "11"}, ""}, {[]string{"11", "1"}, ""}, {[]string{"1", ""}, ""}, {[]string{""}, ""}, {[]string{"1", "2"}, ""}, {[]string{"2"}, ""},
	} {
		wants(t, "Resolve", impl.Resolve(c.list), c.want)
	}
}

func TestChoose(t *testing.T) {
	for _, c := range []struct{ c, a, b, want string }{
		{"1", "01xz", "1100", "01xz"}, {"0", "01xz", "11zx", "11zx"}, {"00", "1", "0", "0"}, {"0x1", "1", "0", "1"}, {"z1", "1", "0", "1"},
		{"x", "0011xz", "0101xz", "0xx1xx"}, {"z", "1", "1", "1"}, {"0z", "1", "0", "x"}, {"z", "z", "z", "x"}, {"0x0", "0z", "01", "0x"},
		{"1", "1", "11", ""}, {"0", "11", "1", ""}, {"", "1", "1", ""}, {"1", "", "", ""}, {"1", "1", "", ""}, {"2", "1", "1", ""}, {"1", "2", "1", ""}, {"1", "1", "2", ""},
	} {
		wants(t, "Choose "+c.c+" "+c.a+" "+c.b, impl.Choose(c.c, c.a, c.b), c.want)
	}
}

func TestDivisions(t *testing.T) {
	least := "1" + strings.Repeat("0", 63)
	full := strings.Repeat("1", 64)
	for _, c := range []struct {
		signed         bool
		a, b           string
		quotient, rest string
	}{
		{true, "1", "1", "1", "0"}, {true, "10", "11", "10", "00"}, {true, "1000", "1111", "1000", "0000"}, {true, least, full, least, impl.BitsOf(0, 64)}, {true, least[:63], full[:63], least[:63], impl.BitsOf(0, 63)},
		{false, "1000", "1111", "0000", "1000"}, {false, least, full, impl.BitsOf(0, 64), least}, {false, full, impl.BitsOf(2, 64), "0" + full[1:], impl.BitsOf(1, 64)},
		{true, impl.BitsOf(-7, 5), impl.BitsOf(2, 5), impl.BitsOf(-3, 5), impl.BitsOf(-1, 5)}, {true, impl.BitsOf(7, 5), impl.BitsOf(-2, 5), impl.BitsOf(-3, 5), impl.BitsOf(1, 5)}, {true, impl.BitsOf(-7, 5), impl.BitsOf(-2, 5), impl.BitsOf(3, 5), impl.BitsOf(-1, 5)},
		{false, "1", "0", "x", "x"}, {true, "1", "0", "x", "x"}, {true, "0000", "0000", "xxxx", "xxxx"}, {true, least, impl.BitsOf(0, 64), strings.Repeat("x", 64), strings.Repeat("x", 64)},
		{false, "1x", "01", "xx", "xx"}, {true, "10", "z1", "xx", "xx"}, {false, "x0", "00", "xx", "xx"},
		{false, "1", "01", "", ""}, {true, "11", "1", "", ""}, {false, "", "1", "", ""}, {true, "1", "", "", ""},
	} {
		wants(t, c.a+" / "+c.b, impl.Binary(impl.OpDiv, c.signed, c.a, c.b), c.quotient)
		wants(t, c.a+" % "+c.b, impl.Binary(impl.OpRem, c.signed, c.a, c.b), c.rest)
	}
}

func TestShifts(t *testing.T) {
	full := strings.Repeat("1", 64)
	for _, c := range []struct{ a, b, up, down, sign string }{
		{"1", "0", "1", "1", "1"}, {"1", "1", "0", "0", "1"}, {"1xz0", "00", "1xz0", "1xz0", "1xz0"}, {"1xz0", "01", "xz00", "01xz", "11xz"}, {"1xz0", "11", "0000", "0001", "1111"},
		{"01", "1", "10", "00", "00"}, {"z01", "1", "010", "0z0", "zz0"}, {"x01", "10", "100", "00x", "xxx"},
		{"10", "10", "00", "00", "11"}, {"10", "1000000", "00", "00", "11"}, {"x0", "1000001", "00", "00", "xx"}, {"10", full, "00", "00", "11"}, {"z1", full, "00", "00", "zz"}, {"10", "1" + impl.BitsOf(0, 63), "00", "00", "11"},
		{full, impl.BitsOf(63, 6), "1" + impl.BitsOf(0, 63), impl.BitsOf(1, 64), full}, {full, impl.BitsOf(64, 64), impl.BitsOf(0, 64), impl.BitsOf(0, 64), full},
		{"10", "x", "xx", "xx", "xx"}, {"10", "z0", "xx", "xx", "xx"}, {"00", "1x", "xx", "xx", "xx"},
		{"10", "", "", "", ""}, {"", "1", "", "", ""}, {"2", "1", "", "", ""}, {"1", "2", "", "", ""},
	} {
		for _, signed := range []bool{false, true} {
			wants(t, c.a+" << "+c.b, impl.Binary(impl.OpShl, signed, c.a, c.b), c.up)
			wants(t, c.a+" >> "+c.b, impl.Binary(impl.OpShr, signed, c.a, c.b), c.down)
			wants(t, c.a+" >>> "+c.b, impl.Binary(impl.OpSar, signed, c.a, c.b), c.sign)
		}
	}
}

func TestWrongOperations(t *testing.T) {
	none := []int{math.MinInt, -1, 0, 25, 32, 64, math.MaxInt}
	for op := impl.OpNot; op <= impl.OpNone; op++ {
		wants(t, "a unary operation of two", impl.Binary(op, true, "1", "1"), "")
	}
	for op := impl.OpAnd; op <= impl.OpEither; op++ {
		wants(t, "a binary operation of one", impl.Unary(op, "1"), "")
	}
	for _, op := range none {
		wants(t, "no operation", impl.Unary(op, "1"), "")
		wants(t, "no operation", impl.Binary(op, false, "1", "1"), "")
	}
}

func TestWrongVectors(t *testing.T) {
	for _, bad := range wrongTexts() {
		for op := impl.OpNot; op <= impl.OpNone; op++ {
			wants(t, "Unary of none", impl.Unary(op, bad), "")
		}
		for op := impl.OpAnd; op <= impl.OpEither; op++ {
			for _, signed := range []bool{false, true} {
				wants(t, "Binary of none and one", impl.Binary(op, signed, bad, "1"), "")
				wants(t, "Binary of one and none", impl.Binary(op, signed, "1", bad), "")
				wants(t, "Binary of none", impl.Binary(op, signed, bad, bad), "")
			}
		}
		wants(t, "Resize of none", impl.Resize(bad, 4, true), "")
		wants(t, "Part of none", impl.Part(bad, 0, 0), "")
		wants(t, "Join of none", impl.Join([]string{"1", bad}), "")
		wants(t, "Resolve of none", impl.Resolve([]string{bad, bad}), "")
		wants(t, "Choose by none", impl.Choose(bad, "1", "1"), "")
		wants(t, "Choose of none", impl.Choose("1", bad, bad), "")
	}
}

func TestWidthsThatDiffer(t *testing.T) {
	for op := impl.OpAnd; op <= impl.OpEither; op++ {
		got := impl.Binary(op, false, "10", "100")
		if (got == "") != (op < impl.OpShl) {
			t.Errorf("operation %d: %q", op, got)
		}
	}
}

func TestListsAreNotWritten(t *testing.T) {
	room := []string{"1z", "z0", "xx", "behind"}
	list := room[:2]
	wants(t, "Join", impl.Join(list), "1zz0")
	wants(t, "Resolve", impl.Resolve(list), "10")
	for i, want := range []string{"1z", "z0", "xx", "behind"} {
		wants(t, "after the calls", room[i], want)
	}
}
