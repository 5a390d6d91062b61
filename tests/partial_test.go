package tests

import (
	"bytes"
	"fmt"
	"slices"
	"strings"
	"testing"

	"loop.example/g00031/impl"
)

// otherImage has of theImage another table of its second tile; oneMore has the first tile's flags and the row's pads unlike, too.
const (
	otherImage = "2,1,2,2 | a b | c | r:0 | y |  | aaaa.03.02000000.0102.0000.0000.0000 1188.00.03020000.0100.0000.0000.0000 | 0102.0100"
	oneMore    = "2,1,2,2 | a b | c | r:0 | y |  | aaaa.01.02000000.0102.0000.0000.0000 1188.00.03020000.0100.0000.0000.0000 | 0102.0200"
)

func TestPartialOf(t *testing.T) {
	a := imageRead(theImage)
	sum := frameSumTold(a)
	second := "118800030200000100000000000000"
	for other, frames := range map[string]string{
		theImage:   "00",
		otherImage: "01 01 " + second,
		oneMore:    "03 00 aaaa01020000000102000000000000 01 " + second + " 02 01020200",
		// a row's frame alone; its number counts on behind the tiles
		strings.Replace(theImage, "0102.0100", "0102.0000", 1): "01 02 01020000",
		strings.Replace(theImage, "0102.0100", "0101.0100", 1): "01 02 01010100",
		// wires, and an input that is the tile's own
		strings.Replace(theImage, "aaaa.03.02000000", "aaaa.03.02000001", 1):           "01 00 aaaa03020000010102000000000000",
		strings.Replace(theImage, "8888.00.03020000.0100", "8888.00.03020000.0101", 1): "01 01 888800030200000101000000000000",
	} {
		b := imageRead(other)
		want := sealed(slices.Concat([]byte("HP\x01"), sum, hexRead(frames)))
		if part := holdPartial(t, a, b); !bytes.Equal(part, want) {
			t.Errorf("%s: %x, want %x", other, part, want)
		}
	}
	part, _ := impl.PartialOf(a, a)
	if want := hexRead("485001 44d7 00 4719"); !bytes.Equal(part, want) {
		t.Errorf("%x, want %x", part, want)
	}
}

// The frame sum is of all tiles' frames and then all rows', one behind the other.
func TestPartialSums(t *testing.T) {
	a := imageRead(theImage)
	all := hexRead("aaaa03020000000102000000000000 888800030200000100000000000000 01020100")
	if sum := impl.Sum16(all); sum != sumOfBytesTold(all) || !bytes.Equal(frameSumTold(a), []byte{byte(sum / 256), byte(sum % 256)}) {
		t.Errorf("%x", sum)
	}
	part, _ := impl.PartialOf(a, imageRead(otherImage))
	if sum := impl.Sum16(all); int(part[3])*256+int(part[4]) != sum {
		t.Errorf("%x, want %x", part[3:5], sum)
	}
	if sum := impl.Sum16(part[:len(part)-2]); int(part[len(part)-2])*256+int(part[len(part)-1]) != sum {
		t.Errorf("%x, want %x", part[len(part)-2:], sum)
	}
}

// All frames of the greatest chip.
func TestPartialWhole(t *testing.T) {
	a := emptyImage(impl.Chip{Wide: 8, High: 8, Tracks: 8, Pads: 4})
	a.Ins, a.Outs = strings.Fields("a b d e f g h i"), strings.Fields("s t u v w x y z")
	b := copiedImage(a)
	for i := range b.Tiles {
		b.Tiles[i] = withByte(b.Tiles[i], 0, 1+i)
	}
	for i := range b.Rows {
		b.Rows[i] = withByte(b.Rows[i], 8, 1+i)
	}
	part := holdPartial(t, a, b)
	if want := 3 + 2 + 1 + 64*(1+39) + 8*(1+12) + 2; len(part) != want || part[5] != 72 {
		t.Errorf("%d bytes, want %d", len(part), want)
	}
	holdPartial(t, b, a)
}

// Images that differ in anything but frames, and what is no image.
func TestPartialOfCodes(t *testing.T) {
	right := "2,2,2,2 | a b | c d | r:0 s:1 | y z | k l | 0000.01.00000000.0000.0000.0000.0000 0000.01.00000000.0000.0000.0000.0000 0000.00.00000000.0000.0000.0000.0000 0000.00.00000000.0000.0000.0000.0000 | 0000.0000 0000.0000"
	for change, want := range map[string]int{
		"2,2,2,2>2,2,2,2": impl.OK,
		"| a b>| a e":     impl.ErrKind, "| a b>| b a": impl.ErrKind, "| a b>| a": impl.ErrKind, "| a b>| a b e": impl.ErrKind,
		"| c d>| c e": impl.ErrKind, "| c d>| d c": impl.ErrKind, "| c d>| c": impl.ErrKind,
		"| r:0 s:1>| q:0 s:1": impl.ErrKind, "| r:0 s:1>| s:1 r:0": impl.ErrKind, "| r:0 s:1>| r:1 s:0": impl.ErrKind,
		"| y z>| z y": impl.ErrKind, "| y z>| y": impl.ErrKind, "| y z>| y z w": impl.ErrBad, "| y z | k l>| y z k | l": impl.ErrKind,
		"| k l>| l k": impl.ErrKind, "| k l>| k": impl.ErrKind, "| k l>| k k": impl.ErrBad,
		"2,2,2,2>4,1,2,2": impl.ErrBad, "2,2,2,2>2,2,2,3": impl.ErrBad, "| r:0 s:1>| r:0": impl.ErrBad, "| r:0 s:1>| r:0 s:2": impl.ErrBad, "0000.0000 0000.0000>0000.0000": impl.ErrBad, "0000.0000 0>0005.0000 0": impl.ErrBad,
	} {
		was, is, _ := strings.Cut(change, ">")
		a, b := imageRead(right), imageRead(strings.Replace(right, was, is, 1))
		for _, images := range [][2]impl.Image{{a, b}, {b, a}} {
			part, code := impl.PartialOf(images[0], images[1])
			told, toldCode := partialTold(images[0], images[1])
			if code != want || toldCode != want || !bytes.Equal(part, told) || code != impl.OK && part != nil {
				t.Errorf("%s: code %d, told %d, want %d: %x", change, code, toldCode, want, part)
			}
		}
	}
	// chips that differ, each with the frames for it
	chip := impl.Chip{Wide: 2, High: 2, Tracks: 2, Pads: 2}
	for _, other := range []impl.Chip{{Wide: 4, High: 1, Tracks: 2, Pads: 2}, {Wide: 3, High: 2, Tracks: 2, Pads: 2}, {Wide: 2, High: 3, Tracks: 2, Pads: 2}, {Wide: 2, High: 2, Tracks: 3, Pads: 2}, {Wide: 2, High: 2, Tracks: 2, Pads: 1}, {Wide: 2, High: 2, Tracks: 3, Pads: 1}} {
		if part, code := impl.PartialOf(emptyImage(chip), emptyImage(other)); code != impl.ErrKind || part != nil {
			t.Errorf("%v: code %d", other, code)
		}
	}
	for _, images := range [][2]impl.Image{{impl.Image{}, emptyImage(chip)}, {emptyImage(chip), impl.Image{}}, {impl.Image{}, impl.Image{}}} {
		if part, code := impl.PartialOf(images[0], images[1]); code != impl.ErrBad || part != nil {
			t.Errorf("code %d", code)
		}
	}
}

// wantsApplied holds ApplyPartial, and what is told of it, against a code.
func wantsApplied(t *testing.T, what string, a impl.Image, part []byte, want int) {
	t.Helper()
	m, code := impl.ApplyPartial(a, part)
	told, toldCode := applyTold(a, part)
	if code != want || toldCode != want || imageShown(m) != imageShown(told) {
		t.Errorf("%s: %x: code %d, told %d, want %d: %s", what, part, code, toldCode, want, imageShown(m))
	}
}

func TestApplyPartial(t *testing.T) {
	a := imageRead(theImage)
	for _, other := range []string{theImage, otherImage, oneMore} {
		part, _ := partialTold(a, imageRead(other))
		m, code := impl.ApplyPartial(a, part)
		if code != impl.OK || imageWritten(m) != other {
			t.Errorf("code %d: %s, want %s", code, imageWritten(m), other)
		}
		wantsApplied(t, "no image", impl.Image{}, part, impl.ErrBad)
		wantsApplied(t, "no bytes", impl.Image{}, nil, impl.ErrBad)
	}
	// names are not looked at: only the frames tell for what a partial image is
	part, _ := partialTold(a, imageRead(otherImage))
	named := imageRead(strings.Replace(theImage, "| a b | c | r:0 | y |", "| d e | f | g:0 | h |", 1))
	m, code := impl.ApplyPartial(named, part)
	if want := strings.Replace(otherImage, "| a b | c | r:0 | y |", "| d e | f | g:0 | h |", 1); code != impl.OK || imageWritten(m) != want {
		t.Errorf("code %d: %s, want %s", code, imageWritten(m), want)
	}
}

// partOf has the mark, the frame sum of theImage, these bytes, and the sum of all.
func partOf(frames string) []byte {
	return sealed(slices.Concat([]byte("HP\x01"), frameSumTold(imageRead(theImage)), hexRead(frames)))
}

// What stands ahead of the frames, and the sums.
func TestApplyPartialSums(t *testing.T) {
	a := imageRead(theImage)
	part, _ := partialTold(a, imageRead(oneMore))
	for length := range part {
		want := impl.ErrSum
		if length < 7 {
			want = impl.ErrForm
		}
		wantsApplied(t, "too short", a, part[:length], want)
	}
	for place := range part {
		for told := range 256 {
			want := impl.ErrSum
			switch {
			case byte(told) == part[place]:
				want = impl.OK
			case place < 3:
				want = impl.ErrForm
			}
			b := slices.Clone(part)
			b[place] = byte(told)
			wantsApplied(t, fmt.Sprint("byte ", place), a, b, want)
			// with the sum that fits, it is what it tells
			if place >= 3 && place < 5 && want == impl.ErrSum {
				wantsApplied(t, "another frame sum", a, sealed(b[:len(b)-2]), impl.ErrSum)
			}
		}
	}
	for what, b := range map[string][]byte{
		"none": nil, "one": {72}, "an image's": hexRead(theHead), "the mark": []byte("HP\x01"), "six bytes": sealed([]byte("HP\x01\x00")),
		"another mark": sealed(slices.Concat([]byte("HQ\x01"), part[3:len(part)-2])), "an image's mark": sealed(slices.Concat([]byte("HI\x01"), part[3:len(part)-2])), "another number": sealed(slices.Concat([]byte("HP\x02"), part[3:len(part)-2])),
		"the mark behind": sealed(slices.Concat([]byte{0}, part[:len(part)-2])),
	} {
		wantsApplied(t, what, a, b, impl.ErrForm)
	}
	// seven bytes are enough for the sums, which fit; then a number does not stand there
	wantsApplied(t, "no number", a, partOf(""), impl.ErrForm)
	wantsApplied(t, "no number and a wrong sum", a, append(partOf("")[:6], 1), impl.ErrSum)
	wantsApplied(t, "the frame sum of another", imageRead(otherImage), partOf("00"), impl.ErrSum)
	wantsApplied(t, "the frame sum of another, and no number", imageRead(otherImage), partOf(""), impl.ErrSum)
}

// What the frames are, behind sums that fit.
func TestApplyPartialFrames(t *testing.T) {
	a := imageRead(theImage)
	first, second, row := "00 aaaa01020000000102000000000000", "01 118800030200000100000000000000", "02 01020200"
	for _, of := range []struct {
		what, frames string
		want         int
	}{
		{"none", "00", impl.OK}, {"the first", "01" + first, impl.OK}, {"the second", "01" + second, impl.OK}, {"the row", "01" + row, impl.OK},
		{"two", "02" + first + row, impl.OK}, {"all", "03" + first + second + row, impl.OK},
		{"none, and a byte more", "0000", impl.ErrForm}, {"none, and a frame", "00" + first, impl.ErrForm},
		{"one less", "02" + first, impl.ErrForm}, {"one more", "01" + first + row, impl.ErrForm}, {"a byte more", "01" + first + "00", impl.ErrForm},
		{"a byte less", "01" + first[:len(first)-2], impl.ErrForm}, {"the row with a byte less", "01" + row[:len(row)-2], impl.ErrForm}, {"no frame behind its number", "0100", impl.ErrForm}, {"no number", "01", impl.ErrForm},
		{"not rising", "02" + second + first, impl.ErrForm}, {"twice", "02" + first + first, impl.ErrForm}, {"twice, unlike", "02" + first + strings.Replace(first, "aaaa", "bbbb", 1), impl.ErrForm},
		{"the row ahead", "02" + row + second, impl.ErrForm}, {"the row twice", "02" + row + "02 01020000", impl.ErrForm},
		{"beyond the last", "01 03 01020200", impl.ErrForm}, {"far beyond", "01 ffffffffff7f 01020200", impl.ErrForm}, {"seven bytes", "01 80808080808001 01020200", impl.ErrForm},
		{"a number with a needless byte", "01 8000 aaaa01020000000102000000000000", impl.ErrForm}, {"that of the row", "01 8200 01020200", impl.ErrForm},
		{"how many with a needless byte", "8100" + row, impl.ErrForm}, {"none with a needless byte", "8000", impl.ErrForm}, {"as many as can be", "ffffffffff7f" + first + second + row, impl.ErrForm},
		{"its own", "01 00 aaaa03020000000102000000000000", impl.ErrForm}, {"its own row", "01 02 01020100", impl.ErrForm}, {"its own behind another", "02" + first + "02 01020100", impl.ErrForm},
		{"a tile's with the row's bytes", "01 00 01020200", impl.ErrForm}, {"the row with a tile's bytes", "01 02 aaaa01020000000102000000000000", impl.ErrForm},
		{"no flags", "01 00 aaaa00020000000102000000000000", impl.ErrForm}, {"a clock that is not there", "01 00 aaaa05020000000102000000000000", impl.ErrForm}, {"flags without a register", "01 01 888801030200000100000000000000", impl.ErrForm},
		{"a wire that is not there", "01 01 888800030200000100010000000000", impl.ErrForm}, {"an input that does not come in", "01 00 aaaa03040000000102000000000000", impl.ErrForm}, {"a pad without an out", "01 02 01020101", impl.ErrForm}, {"an input that is not there", "01 02 03020100", impl.ErrForm},
	} {
		wantsApplied(t, of.what, a, partOf(of.frames), of.want)
	}
	wantsApplied(t, "more than MaxText bytes", a, partOf("01"+strings.Repeat("00", 70000)), impl.ErrForm)
	wantsApplied(t, "a frame and a tail", a, sealed(slices.Concat(partOf("01"+row), make([]byte, 3000))), impl.ErrForm)
}
