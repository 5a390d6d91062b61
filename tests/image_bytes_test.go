package tests

import (
	"bytes"
	"encoding/hex"
	"fmt"
	"slices"
	"strings"
	"testing"

	"loop.example/g00031/impl"
)

func TestSum16(t *testing.T) {
	for _, of := range []struct {
		of   string
		want int
	}{
		{"", 65535}, {"\x00", 57840}, {"\x01", 61905}, {"\x80", 28792}, {"\xff", 65280}, {"\x00\x00", 7439}, {"123456789", 10673}, {"HI\x01", 57317},
		{strings.Repeat("a", 4097), 28166}, {strings.Repeat("\x00", 65536), 7439}, {strings.Repeat("\xff", 65536), 0},
	} {
		if got := impl.Sum16([]byte(of.of)); got != of.want || sumOfBytesTold([]byte(of.of)) != of.want {
			t.Errorf("%.20q of %d bytes: %d, told %d, want %d", of.of, len(of.of), got, sumOfBytesTold([]byte(of.of)), of.want)
		}
	}
	if got := impl.Sum16(nil); got != 65535 {
		t.Errorf("nil: %d", got)
	}
	// each byte behind each first one
	for first := range 256 {
		for second := range 256 {
			b := []byte{byte(first), byte(second)}
			if got := impl.Sum16(b); got != sumOfBytesTold(b) {
				t.Fatalf("%x: %d", b, got)
			}
		}
	}
	for count, want := range map[int]int{65535: 0xf1d1, 65536: 0x3e1f, 65537: 0, 65538: 0, 1 << 20: 0} {
		b := bytes.Repeat([]byte{1}, count)
		if got := impl.Sum16(b); got != want || sumOfBytesTold(b) != want {
			t.Errorf("%d bytes: %x, told %x, want %x", count, got, sumOfBytesTold(b), want)
		}
	}
}

// The bytes of theImage, by their pieces.
const (
	theHead  = "4849010201020202016101620101630101720001017900" + "3b37"
	theTiles = "01aaaa03020000000102000000000000" + "58d3" + "01888800030200000100000000000000" + "ef93"
	theRow   = "0101020100" + "90b8"
)

func hexRead(text string) []byte {
	b, err := hex.DecodeString(strings.ReplaceAll(text, " ", ""))
	if err != nil {
		panic(text)
	}
	return b
}

// sameTiles is an image of a row of so many tiles, of which those at these places have another table.
func sameTiles(wide int, unlike ...int) impl.Image {
	m := emptyImage(impl.Chip{Wide: wide, High: 1, Tracks: 1, Pads: 1})
	for _, tile := range unlike {
		m.Tiles[tile] = withByte(m.Tiles[tile], 0, 1)
	}
	return m
}

// recordsShown are how many frames each record of an image's bytes has, tiles' ahead of rows'.
func recordsShown(m impl.Image, b []byte) string {
	var counts []string
	at, seen := recordsFrom(m), 0
	for at < len(b) {
		counts = append(counts, fmt.Sprint(b[at]))
		long := 7 + 4*m.Chip.Tracks
		if seen >= len(m.Tiles) {
			long = m.Chip.Tracks + m.Chip.Pads
		}
		seen += int(b[at])
		at += 1 + long + 2
	}
	return strings.Join(counts, " ")
}

func TestImageBytes(t *testing.T) {
	m := imageRead(theImage)
	b, code := holdImage(t, m)
	if code != impl.OK || !bytes.Equal(b, hexRead(theHead+theTiles+theRow)) {
		t.Errorf("code %d: %x", code, b)
	}
	b, code = holdImage(t, emptyImage(impl.Chip{Wide: 1, High: 1, Tracks: 1, Pads: 1}))
	if want := hexRead("48490101010101 0000000000 4277 01 0000 00 00000000 00 00 00 00 878c 01 00 00 fbac"); code != impl.OK || !bytes.Equal(b, want) {
		t.Errorf("code %d: %x", code, b)
	}
	for _, of := range []struct {
		m    impl.Image
		want string
	}{
		{sameTiles(1), "1 1"}, {sameTiles(2), "2 1"}, {sameTiles(8), "8 1"}, {sameTiles(8, 0), "1 7 1"}, {sameTiles(8, 7), "7 1 1"}, {sameTiles(8, 3), "3 1 4 1"},
		{sameTiles(8, 2, 3, 4), "2 3 3 1"}, {sameTiles(8, 0, 2, 4, 6), "1 1 1 1 1 1 1 1 1"}, {sameTiles(8, rising(8)...), "8 1"},
		{emptyImage(impl.Chip{Wide: 8, High: 8, Tracks: 8, Pads: 4}), "64 8"}, {emptyImage(impl.Chip{Wide: 1, High: 3, Tracks: 8, Pads: 4}), "3 3"},
	} {
		b, code := holdImage(t, of.m)
		if got := recordsShown(of.m, b); code != impl.OK || got != of.want {
			t.Errorf("%s: code %d, records %s, want %s", imageWritten(of.m), code, got, of.want)
		}
	}
	// rows of which one is unlike the others
	m = emptyImage(impl.Chip{Wide: 1, High: 4, Tracks: 1, Pads: 1})
	m.Ins = strings.Fields("a b c")
	m.Rows[2] = "\x01\x00"
	b, code = holdImage(t, m)
	if got := recordsShown(m, b); code != impl.OK || got != "4 2 1 1" {
		t.Errorf("code %d, records %s", code, got)
	}
	m.Rows[2] = "\x02\x00"
	if b, code := holdImage(t, m); code != impl.ErrBad || b != nil {
		t.Errorf("code %d: %x", code, b)
	}
}

// longImage has names of such a length that its bytes are so many.
func longImage(count int) impl.Image {
	m := emptyImage(impl.Chip{Wide: 8, High: 8, Tracks: 8, Pads: 4})
	m.Clocks = strings.Fields("c0 c1 c2 c3 c4 c5 c6 c7")
	for i := range 32 {
		m.Ins = append(m.Ins, fmt.Sprintf("%0800d", i))
		m.Outs = append(m.Outs, fmt.Sprintf("%0800d", i))
	}
	// the names of registers are what is left; each frame of a tile with one is like the others
	for i := range 64 {
		m.Regs = append(m.Regs, impl.Port{Name: fmt.Sprintf("r%03d", i), Src: i})
		m.Tiles[i] = withByte(m.Tiles[i], 2, 1)
	}
	for i := range m.Regs {
		b := slices.Concat(sealed(headBytes(m)), recordBytes(m.Tiles), recordBytes(m.Rows))
		more := min(count-len(b), 900)
		if more > 0 {
			if more >= 124 {
				more--
			}
			m.Regs[i].Name += strings.Repeat("n", more)
		}
	}
	return m
}

func TestImageBytesLong(t *testing.T) {
	for count, want := range map[int]int{65535: impl.OK, 65536: impl.OK, 65537: impl.ErrLong, 65600: impl.ErrLong} {
		m := longImage(count)
		told := slices.Concat(sealed(headBytes(m)), recordBytes(m.Tiles), recordBytes(m.Rows))
		b, code := holdImage(t, m)
		if len(told) != count || code != want || code == impl.OK && len(b) != count || code != impl.OK && b != nil {
			t.Errorf("%d bytes, want %d: code %d, %d bytes", len(told), count, code, len(b))
		}
		// as it is too long for ImageBytes, it does not come back
		wanted := impl.OK
		if want != impl.OK {
			wanted = impl.ErrForm
		}
		if code := holdImageRead(t, told); code != wanted {
			t.Errorf("%d bytes: code %d", len(told), code)
		}
		if rows, code := impl.DeviceRun(m, nil); code != impl.OK || len(rows) != 0 {
			t.Errorf("code %d", code)
		}
	}
}

// wantsRead holds ReadImage, and what is told of it, against a code.
func wantsRead(t *testing.T, what string, b []byte, want int) {
	t.Helper()
	if code := holdImageRead(t, b); code != want {
		t.Errorf("%s: %x: code %d, want %d", what, b, code, want)
	}
}

func TestReadImage(t *testing.T) {
	m, code := impl.ReadImage(hexRead(theHead + theTiles + theRow))
	if code != impl.OK || imageWritten(m) != theImage {
		t.Errorf("code %d: %s", code, imageWritten(m))
	}
	m, code = impl.ReadImage(nil)
	if code != impl.ErrForm || imageShown(m) != imageShown(impl.Image{}) {
		t.Errorf("code %d: %v", code, m)
	}
}

// Bytes that end ahead of what is told to stand there, at each length.
func TestReadImageShort(t *testing.T) {
	whole := hexRead(theHead + theTiles + theRow)
	for length := range whole {
		wantsRead(t, "too short", whole[:length], impl.ErrForm)
	}
	wantsRead(t, "a byte more", append(slices.Clone(whole), 0), impl.ErrForm)
	wantsRead(t, "a record more", slices.Concat(whole, hexRead(theRow)), impl.ErrForm)
	wantsRead(t, "twice", slices.Concat(whole, whole), impl.ErrForm)
	// of a record it is looked first whether all its bytes are there, of the head the sum is looked at ahead of what is behind it
	cut := hexRead(theHead + theTiles + theRow)
	cut[len(cut)-3] ^= 1
	wantsRead(t, "a wrong frame", cut, impl.ErrSum)
	wantsRead(t, "a wrong frame, and a byte less", cut[:len(cut)-1], impl.ErrForm)
	wantsRead(t, "a wrong frame, and a byte more", append(cut, 0), impl.ErrSum)
	cut = hexRead(theHead)
	cut[len(cut)-1] ^= 1
	wantsRead(t, "the head alone with a wrong sum", cut, impl.ErrSum)
	wantsRead(t, "the same with a byte less", cut[:len(cut)-1], impl.ErrForm)
}

// headWith is the head of theImage, of which one of its bytes was put by others, and its records; with its sum or with a wrong one.
func headWith(place int, others string, sumFits bool) []byte {
	head := hexRead(theHead[:len(theHead)-4])
	head = slices.Concat(head[:place], hexRead(others), head[place+1:])
	b := sealed(head)
	if !sumFits {
		b[len(b)-1] ^= 1
	}
	return slices.Concat(b, hexRead(theTiles+theRow))
}

// Where each of the numbers of the head of theImage stands, and what it is.
var headNumbers = map[string]int{
	"Wide": 3, "High": 4, "Tracks": 5, "Pads": 6, "inputs": 7, "the length of a": 8, "clocks": 12, "the length of c": 13, "registers": 15, "the length of r": 16, "Src": 18, "outs": 19, "the length of y": 20, "checks": 22,
}

// Each number with bytes that it does not need: that is told ahead of any sum.
func TestReadImageNumbers(t *testing.T) {
	right := hexRead(theHead)
	for what, place := range headNumbers {
		was := right[place]
		for count := 1; count < 8; count++ {
			long := fmt.Sprintf("%02x", was|128) + strings.Repeat("80", count-1) + "00"
			wantsRead(t, what+" with needless bytes", headWith(place, long, true), impl.ErrForm)
			wantsRead(t, what+" with needless bytes and a wrong sum", headWith(place, long, false), impl.ErrForm)
		}
		wantsRead(t, what+" in seven bytes", headWith(place, "80808080808001", false), impl.ErrForm)
		wantsRead(t, what+" in as many as can be", headWith(place, "ffffffffffff7f", false), impl.ErrForm)
		wantsRead(t, what+" without an end", right[:place], impl.ErrForm)
		wantsRead(t, what+" that goes on", append(slices.Clone(right[:place]), 0x81), impl.ErrForm)
		wantsRead(t, what+" that is so great", headWith(place, "808080808001", false), map[bool]int{true: impl.ErrSum, false: impl.ErrForm}[what == "Src"])
	}
	// a register's tile of six bytes is a number, which is no tile: that is seen in the end alone
	for others, want := range map[string]int{"00": impl.OK, "01": impl.ErrForm, "02": impl.ErrForm, "7f": impl.ErrForm, "8001": impl.ErrForm, "808080808001": impl.ErrForm, "ffffffffff7f": impl.ErrForm, "80808080808001": impl.ErrForm, "8000": impl.ErrForm, "808080808000": impl.ErrForm} {
		wantsRead(t, "Src "+others, headWith(18, others, true), want)
		if others == "00" {
			want = impl.ErrSum
		}
		isNumber := others != "8000" && others != "808080808000" && len(others) < 14
		if isNumber {
			want = impl.ErrSum
		}
		wantsRead(t, "Src "+others+" and a wrong sum", headWith(18, others, false), want)
	}
}

// The first three bytes, and a chip that is none, are told ahead of any sum; a chip that others would be for is told where its records are.
func TestReadImageChip(t *testing.T) {
	for place := range 3 {
		for told := range 256 {
			want := impl.ErrForm
			if byte(told) == hexRead(theHead)[place] {
				want = impl.ErrSum
			}
			wantsRead(t, "mark", headWith(place, fmt.Sprintf("%02x", told), false), want)
		}
	}
	for place, most := range map[int]int{3: 8, 4: 8, 5: 8, 6: 4} {
		for told := range 130 {
			others := hex.EncodeToString(numberBytes(told))
			want := impl.ErrForm
			if told >= 1 && told <= most {
				want = impl.ErrSum
			}
			wantsRead(t, "chip", headWith(place, others, false), want)
		}
		wantsRead(t, "a greater chip", headWith(place, "ffffffffff7f", false), impl.ErrForm)
	}
	// the bytes end at the chip
	wantsRead(t, "a chip that is none", hexRead("4849010900"), impl.ErrForm)
	wantsRead(t, "a chip and no more", hexRead("48490108080804"), impl.ErrForm)
}

// An image that is not right by what its names or numbers are is told in the end, behind wrong sums.
func TestReadImageNames(t *testing.T) {
	long := strings.Repeat("n", 1001)
	for what, bend := range map[string]func(m *impl.Image){
		"an empty input":             func(m *impl.Image) { m.Ins[0] = "" },
		"an input too long":          func(m *impl.Image) { m.Ins[1] = long },
		"an input twice":             func(m *impl.Image) { m.Ins[1] = "a" },
		"a clock as an input":        func(m *impl.Image) { m.Clocks[0] = "a" },
		"a clock too long":           func(m *impl.Image) { m.Clocks[0] = long },
		"too many clocks":            func(m *impl.Image) { m.Clocks = strings.Fields("c d e f g h i j k") },
		"no clock":                   func(m *impl.Image) { m.Clocks = nil },
		"no register":                func(m *impl.Image) { m.Regs = nil },
		"a register on another tile": func(m *impl.Image) { m.Regs[0].Src = 1 },
		"a register on no tile":      func(m *impl.Image) { m.Regs[0].Src = 2 },
		"a register too long":        func(m *impl.Image) { m.Regs[0].Name = long },
		"an empty out":               func(m *impl.Image) { m.Outs[0] = "" },
		"too many outs":              func(m *impl.Image) { m.Outs = strings.Fields("y z w") },
		"no out":                     func(m *impl.Image) { m.Outs = nil },
		"too many inputs":            func(m *impl.Image) { m.Ins = strings.Fields("a b d") },
		"a check too long":           func(m *impl.Image) { m.Checks = []string{long} },
		"a register's flags":         func(m *impl.Image) { m.Tiles[0] = withByte(m.Tiles[0], 2, 0) },
		"a wire that is not there":   func(m *impl.Image) { m.Tiles[1] = withByte(m.Tiles[1], 9, 1) },
		"a pad that is not there":    func(m *impl.Image) { m.Rows[0] = withByte(m.Rows[0], 3, 1) },
		"a pad without an input":     func(m *impl.Image) { m.Rows[0] = withByte(m.Rows[0], 0, 3) },
	} {
		m := imageRead(theImage)
		bend(&m)
		head, tiles, row := sealed(headBytes(m)), recordBytes(m.Tiles), recordBytes(m.Rows)
		wantsRead(t, what, slices.Concat(head, tiles, row), impl.ErrForm)
		for _, piece := range [][]byte{head, tiles[:18], tiles, row} {
			piece[len(piece)-1] ^= 1
			wantsRead(t, what+" and a wrong sum", slices.Concat(head, tiles, row), impl.ErrSum)
			piece[len(piece)-1] ^= 1
		}
	}
}

// Wrong sums at each place, and more than one thing that is wrong.
func TestReadImageRecords(t *testing.T) {
	tile := func(count int) string {
		return hex.EncodeToString(sealed(hexRead(fmt.Sprintf("%02x888800030200000100000000000000", count))))
	}
	row := func(count int) string { return hex.EncodeToString(sealed(hexRead(fmt.Sprintf("%02x01020100", count)))) }
	wrong := func(record string) string {
		b := hexRead(record)
		b[len(b)-2] ^= 0x80
		return hex.EncodeToString(b)
	}
	first := theTiles[:36]
	for _, of := range []struct {
		what, records string
		want          int
	}{
		{"all", first + tile(1) + row(1), impl.OK},
		{"a wrong sum of the first", wrong(first) + tile(1) + row(1), impl.ErrSum},
		{"a wrong sum of the second", first + wrong(tile(1)) + row(1), impl.ErrSum},
		{"a wrong sum of the row", first + tile(1) + wrong(row(1)), impl.ErrSum},
		{"no frame", first + tile(0) + tile(1) + row(1), impl.ErrForm},
		{"no frame, and then a wrong sum", first + tile(0) + wrong(tile(1)) + row(1), impl.ErrForm},
		{"no frame by a wrong sum", first + wrong(tile(0)) + tile(1) + row(1), impl.ErrSum},
		{"a wrong sum, and then no frame", wrong(first) + tile(0) + row(1), impl.ErrSum},
		{"a frame too many", first + tile(2) + row(1), impl.ErrForm},
		{"too many, and then a wrong sum", first + tile(2) + wrong(row(1)), impl.ErrForm},
		{"too many by a wrong sum", first + wrong(tile(2)) + row(1), impl.ErrSum},
		{"as many as can be told", first + tile(255) + row(1), impl.ErrForm},
		{"a row's frame less", first + tile(1) + row(0), impl.ErrForm},
		{"a row's frame less, and the row", first + tile(1) + row(0) + row(1), impl.ErrForm},
		{"a row's frame too many", first + tile(1) + row(2), impl.ErrForm},
		{"a row's frame too many by a wrong sum", first + tile(1) + wrong(row(2)), impl.ErrSum},
		{"a tile's record more", first + tile(1) + tile(1) + row(1), impl.ErrSum},
		{"a tile's record less", first + row(1), impl.ErrForm},
		{"the row's record twice", first + tile(1) + row(1) + row(1), impl.ErrForm},
		{"no record", "", impl.ErrForm},
	} {
		wantsRead(t, of.what, hexRead(theHead+of.records), of.want)
	}
	// frames that might have been one record
	m := sameTiles(4)
	head := sealed(headBytes(m))
	one := recordBytes(m.Rows)
	for _, counts := range []string{"4", "1 3", "3 1", "2 2", "1 1 1 1", "5", "2 3", "4 0", "0 4"} {
		var tiles []byte
		for _, count := range numbersRead(counts) {
			tiles = append(tiles, sealed(append([]byte{byte(count)}, m.Tiles[0]...))...)
		}
		want := impl.ErrForm
		if counts == "4" {
			want = impl.OK
		}
		if counts == "4 0" {
			// where the row's record must stand there are other bytes
			want = impl.ErrSum
		}
		wantsRead(t, "records of "+counts, slices.Concat(head, tiles, one), want)
	}
}

// Many names and lists that are told to be greater than all bytes.
func TestReadImageGreat(t *testing.T) {
	for what, b := range map[string][]byte{
		"a name of all":        slices.Concat(hexRead("48490101010101 01 ffffffffff7f"), make([]byte, 70000)),
		"as many as can be":    slices.Concat(hexRead("48490101010101 ffffffffff7f"), make([]byte, 70000)),
		"as many registers":    slices.Concat(hexRead("48490101010101 0000 ffffffffff7f"), make([]byte, 70000)),
		"bytes alone":          make([]byte, 1<<20),
		"all bytes of the top": bytes.Repeat([]byte{255}, 1<<16),
	} {
		m, code := impl.ReadImage(b)
		if code != impl.ErrForm || imageShown(m) != imageShown(impl.Image{}) {
			t.Errorf("%s: code %d", what, code)
		}
	}
	// many names that none can have are told behind all sums
	many := slices.Concat(hexRead("48490101010101 b0ea01"), make([]byte, 30000+4))
	least := emptyImage(impl.Chip{Wide: 1, High: 1, Tracks: 1, Pads: 1})
	records := slices.Concat(recordBytes(least.Tiles), recordBytes(least.Rows))
	wantsRead(t, "empty names", slices.Concat(sealed(many), records), impl.ErrForm)
	wantsRead(t, "empty names and a wrong sum", slices.Concat(many, []byte{0, 0}, records), impl.ErrSum)
	records[len(records)-1] ^= 1
	wantsRead(t, "empty names and a wrong sum behind", slices.Concat(sealed(many), records), impl.ErrSum)
	// more than MaxText bytes
	whole := hexRead(theHead + theTiles + theRow)
	wantsRead(t, "a tail", slices.Concat(whole, make([]byte, 70000)), impl.ErrForm)
	whole[30] ^= 1
	wantsRead(t, "a wrong sum and a tail", slices.Concat(whole, make([]byte, 70000)), impl.ErrSum)
}
