package tests

import (
	"fmt"
	"slices"
	"strings"
	"testing"

	"loop.example/g00031/impl"
)

// lesserFirst is the graph with A not above B in each and.
func lesserFirst(a impl.Aig) impl.Aig {
	a.Ands = slices.Clone(a.Ands)
	for i, and := range a.Ands {
		a.Ands[i] = impl.And{A: min(and.A, and.B), B: max(and.A, and.B)}
	}
	return a
}

// holdBytes holds a graph's bytes against what is told of them, and what is read of them against the graph.
func holdBytes(t *testing.T, a impl.Aig) ([]byte, int) {
	t.Helper()
	b, code := impl.AigBytes(a)
	want, wantCode := aigBytesTold(a)
	if code != wantCode || string(b) != want {
		t.Fatalf("%s\ncode %d, want %d\n%q, want\n%q", aigShown(a), code, wantCode, b, want)
	}
	if code != impl.OK {
		return b, code
	}
	back, code := holdRead(t, b)
	if code != impl.OK || aigShown(back) != aigShown(lesserFirst(a)) {
		t.Fatalf("%s\n%q: code %d, read as\n%s", aigShown(a), b, code, aigShown(back))
	}
	return b, code
}

// holdRead holds what is read of bytes against what is told of them; it gives just these bytes.
func holdRead(t *testing.T, b []byte) (impl.Aig, int) {
	t.Helper()
	a, code := impl.ReadAig(b)
	want, wantCode := readAigTold(string(b))
	if code != wantCode || aigShown(a) != aigShown(want) {
		t.Fatalf("%q\ncode %d, want %d\n%s, want\n%s", b, code, wantCode, aigShown(a), aigShown(want))
	}
	if code != impl.OK {
		return a, code
	}
	if again, code := impl.AigBytes(a); code != impl.OK || !slices.Equal(again, b) {
		t.Fatalf("%q\n%s gives code %d, %q", b, aigShown(a), code, again)
	}
	return a, code
}

func TestAigBytes(t *testing.T) {
	long := strings.Repeat("n", 300)
	for what, c := range map[string]struct{ text, want string }{
		"nothing":            {"", "\x00\x00\x00\x00\x00\x00"},
		"an input":           {"i", "\x01\x01i\x00\x00\x00\x00\x00"},
		"inputs in order":    {"i jj k", "\x03\x01i\x02jj\x01k\x00\x00\x00\x00\x00"},
		"clocks":             {"| c dd", "\x00\x02\x01c\x02dd\x00\x00\x00\x00"},
		"a latch":            {"i | c d | l=1<5@1", "\x01\x01i\x02\x01c\x01d\x01\x01l\x05\x01\x01\x00\x00\x00"},
		"latches":            {"| c | l=0<4@0 mm=1<3@0", "\x00\x01\x01c\x02\x01l\x04\x00\x00\x02mm\x03\x01\x00\x00\x00\x00"},
		"an and":             {"i j | | | 2,4", "\x02\x01i\x01j\x00\x00\x01\x02\x02\x00\x00"},
		"an and turned":      {"i j | | | 4,2", "\x02\x01i\x01j\x00\x00\x01\x02\x02\x00\x00"},
		"one literal twice":  {"i j | | | 5,5", "\x02\x01i\x01j\x00\x00\x01\x01\x00\x00\x00"},
		"of false":           {"i j | | | 0,0 0,1", "\x02\x01i\x01j\x00\x00\x02\x06\x00\x07\x01\x00\x00"},
		"ands one by one":    {"i | c | l=0<2@0 | 2,5 7,3 6,9", "\x01\x01i\x01\x01c\x01\x01l\x02\x00\x00\x03\x01\x03\x01\x04\x01\x03\x00\x00"},
		"outs":               {"i | | | | y:2 zz:1", "\x01\x01i\x00\x00\x00\x02\x01y\x02\x02zz\x01\x00"},
		"checks":             {"i | | | | | k:3 q:0", "\x01\x01i\x00\x00\x00\x00\x02\x01k\x03\x01q\x00"},
		"a long name":        {long, "\x01\xac\x02" + long + "\x00\x00\x00\x00\x00"},
		"of 127 bytes":       {long[:127], "\x01\x7f" + long[:127] + "\x00\x00\x00\x00\x00"},
		"of 128 bytes":       {long[:128], "\x01\x80\x01" + long[:128] + "\x00\x00\x00\x00\x00"},
		"all of them":        {theAig, "\x02\x01i\x01j\x02\x01c\x01d\x03\x01l\x11\x00\x00\x01m\x19\x01\x00\x01n\x04\x00\x01\x07\x05\x05\x08\x03\x01\x02\x0c\x04\x01\x0b\x04\x09\x01\x02\x03\x01y\x06\x01z\x09\x01w\x0b\x02\x01k\x11\x01q\x18"},
		"the given one":      {"i | c | l=1<7@0 | 2,5 | o:6", "\x01\x01i\x01\x01c\x01\x01l\x07\x01\x00\x01\x01\x03\x01\x01o\x06\x00"},
		"any bytes in names": {"\xff\x80 \x01", "\x02\x02\xff\x80\x01\x01\x00\x00\x00\x00\x00"},
	} {
		b, code := holdBytes(t, aigRead(c.text))
		if code != impl.OK || string(b) != c.want {
			t.Errorf("%s: code %d, %q, want %q", what, code, b, c.want)
		}
	}
	// literals of two bytes, and of three
	wide := wideAig(1, 0, 8192, 0, 0, 0)
	for lit, want := range map[int]string{0: "\x00", 127: "\x7f", 128: "\x80\x01", 129: "\x81\x01", 255: "\xff\x01", 256: "\x80\x02", 16383: "\xff\x7f", 16384: "\x80\x80\x01", 16387: "\x83\x80\x01"} {
		wide.Outs = []impl.Pin{{Name: "y", Lit: lit}}
		b, code := holdBytes(t, wide)
		if code != impl.OK || !strings.HasPrefix(string(b), "\x01\x02i0\x00\x00\x80\x40") || !strings.HasSuffix(string(b), "\x01\x01y"+want+"\x00") {
			t.Errorf("%d: code %d, %q", lit, code, b[len(b)-9:])
		}
	}
}

func TestReadAig(t *testing.T) {
	for what, text := range map[string]string{
		"nothing at all":               "",
		"one byte":                     "\x00",
		"a list less":                  "\x00\x00\x00\x00\x00",
		"a byte more":                  "\x00\x00\x00\x00\x00\x00\x00",
		"many bytes more":              "\x00\x00\x00\x00\x00\x00abcdefgh",
		"a 0 of two bytes":             "\x80\x00\x00\x00\x00\x00\x00",
		"a 0 of three bytes":           "\x00\x00\x00\x00\x00\x80\x80\x00",
		"a 1 of two bytes":             "\x81\x00\x01i\x00\x00\x00\x00\x00",
		"a length of two bytes":        "\x01\x81\x00i\x00\x00\x00\x00\x00",
		"a literal of two bytes":       "\x01\x01i\x00\x00\x00\x01\x01y\x82\x00\x00",
		"a literal of three bytes":     "\x01\x01i\x00\x00\x00\x01\x01y\x82\x80\x00\x00",
		"an and's first in two bytes":  "\x02\x01i\x01j\x00\x00\x01\x82\x00\x02\x00\x00",
		"an and's second in two bytes": "\x02\x01i\x01j\x00\x00\x01\x02\x82\x00\x00\x00",
		"a clock of two bytes":         "\x01\x01i\x01\x01c\x01\x01l\x02\x00\x80\x00\x00\x00\x00",
		"an Init of two bytes":         "\x01\x01i\x01\x01c\x01\x01l\x02\x81\x00\x00\x00\x00\x00",
		"a number that does not end":   "\x80",
		"many bytes of a number":       "\x00\x00\x00\x00\x00\x80\x80\x80\x80\x80\x80\x80\x80\x80\x80\x80\x80\x00",
		"a number above all":           "\xff\xff\xff\xff\xff\xff\xff\xff\xff\xff\x01\x00\x00\x00\x00\x00",
		"a number of ten bytes":        "\x00\x00\x00\x00\x00\x81\x80\x80\x80\x80\x80\x80\x80\x80\x01\x01k\x00",
		"very many inputs":             "\xff\xff\xff\xff\xff\x7f",
		"very many of each":            "\x00\x00\x00\xff\xff\xff\xff\x7f\x01\x01",
		"a name too short":             "\x01\x02i",
		"a very long name":             "\x01\xff\xff\xff\xff\x0fi\x00\x00\x00\x00\x00",
		"an empty name":                "\x01\x00\x00\x00\x00\x00\x00",
		"a name twice":                 "\x02\x01i\x01i\x00\x00\x00\x00\x00",
		"an input and a clock":         "\x01\x01i\x01\x01i\x00\x00\x00\x00",
		"an out that is not there":     "\x01\x01i\x00\x00\x00\x01\x01y\x04\x00",
		"a check that is not there":    "\x01\x01i\x00\x00\x00\x00\x01\x01k\x04",
		"a Next that is not there":     "\x01\x01i\x01\x01c\x01\x01l\x06\x00\x00\x00\x00\x00",
		"a clock that is not there":    "\x01\x01i\x01\x01c\x01\x01l\x02\x00\x01\x00\x00\x00",
		"an Init that is none":         "\x01\x01i\x01\x01c\x01\x01l\x02\x02\x00\x00\x00\x00",
		"an and of itself":             "\x02\x01i\x01j\x00\x00\x01\x00\x02\x00\x00",
		"an and of less than nothing":  "\x02\x01i\x01j\x00\x00\x01\x02\x05\x00\x00",
		"both below nothing":           "\x02\x01i\x01j\x00\x00\x01\x07\x00\x00\x00",
		"an and far below":             "\x02\x01i\x01j\x00\x00\x01\xff\xff\xff\xff\xff\x7f\xff\xff\xff\xff\xff\x7f\x00\x00",
		"nine clocks":                  "\x00\x09\x01a\x01b\x01c\x01d\x01e\x01f\x01g\x01h\x01i\x00\x00\x00\x00",
	} {
		if a, code := holdRead(t, []byte(text)); code != impl.ErrForm || aigShown(a) != aigShown(impl.Aig{}) {
			t.Errorf("%s: code %d, %s", what, code, aigShown(a))
		}
	}
	if a, code := impl.ReadAig(nil); code != impl.ErrForm || aigShown(a) != aigShown(impl.Aig{}) {
		t.Errorf("code %d", code)
	}
	// with A not above B, of whatever the bytes were made
	b, _ := impl.AigBytes(aigRead("i j | | | 5,2 3,3 4,1"))
	if a, code := holdRead(t, b); code != impl.OK || aigWritten(a) != "i j |  |  | 2,5 3,3 1,4 |  | " {
		t.Errorf("code %d, %s", code, aigWritten(a))
	}
}

// sizedAig is a graph of just so many bytes: as many outs with long names as it needs.
func sizedAig(size int) impl.Aig {
	a := aigRead("i j | c | l=0<6@0 | 2,4")
	b, _ := impl.AigBytes(a)
	size -= len(b)
	for i := 0; size > 0; i++ {
		// an out has two bytes for its length and one for its literal
		own := min(size, 1003)
		if rest := size - own; rest > 0 && rest < 200 {
			own -= 200
		}
		name := fmt.Sprintf("%04d", i)
		a.Outs = append(a.Outs, impl.Pin{Name: name + strings.Repeat("n", own-3-len(name)), Lit: i % 8})
		size -= own
	}
	return a
}

func TestAigBytesMost(t *testing.T) {
	for size, want := range map[int]int{65535: impl.OK, impl.MaxText: impl.OK, impl.MaxText + 1: impl.ErrLong, 66000: impl.ErrLong, 120000: impl.ErrLong} {
		a := sizedAig(size)
		b, code := holdBytes(t, a)
		if code != want || code == impl.OK && len(b) != size || code != impl.OK && len(b) != 0 {
			t.Errorf("%d: code %d, %d bytes", size, code, len(b))
		}
		// what was written, though there is too much of it, is no graph's
		whole := append([]byte(bytesWithout(a)), 0)
		if len(whole) != size {
			t.Fatalf("%d: %d bytes", size, len(whole))
		}
		read, code := holdRead(t, whole)
		if (code == impl.OK) != (want == impl.OK) || code != impl.OK && (code != impl.ErrForm || aigShown(read) != aigShown(impl.Aig{})) {
			t.Errorf("%d: read with code %d", size, code)
		}
	}
	// no graph at all, whatever it would have
	wrong := sizedAig(impl.MaxText + 1)
	wrong.Outs[0].Lit = -1
	if b, code := holdBytes(t, wrong); code != impl.ErrBad || len(b) != 0 {
		t.Errorf("code %d, %d bytes", code, len(b))
	}
	// all that there can be
	full := wideAig(1000, 1048, 8192, 2048, 2048, 8)
	if b, code := holdBytes(t, full); code != impl.ErrLong || len(b) != 0 {
		t.Errorf("code %d, %d bytes", code, len(b))
	}
	full.Outs, full.Checks = full.Outs[:1000], nil
	if b, code := holdBytes(t, full); code != impl.OK || len(b) < 40000 {
		t.Errorf("code %d, %d bytes", code, len(b))
	}
	for _, size := range []int{impl.MaxText, impl.MaxText + 1, 1 << 20} {
		for _, value := range []byte{0, 1, 127, 128, 255} {
			if a, code := holdRead(t, slices.Repeat([]byte{value}, size)); code != impl.ErrForm || aigShown(a) != aigShown(impl.Aig{}) {
				t.Errorf("%d bytes %d: code %d", size, value, code)
			}
		}
	}
}

// bytesWithout are a graph's bytes, however many, but for the last one, which is that there are no checks.
func bytesWithout(a impl.Aig) string {
	var text strings.Builder
	head := a
	head.Outs = nil
	b, _ := impl.AigBytes(head)
	text.Write(b[:len(b)-2])
	text.WriteString(numberTold(len(a.Outs)))
	for _, p := range a.Outs {
		text.WriteString(nameTold(p.Name) + numberTold(p.Lit))
	}
	return text.String()
}
