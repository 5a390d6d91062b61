package tests

import (
	"fmt"
	"slices"
	"strings"
	"testing"

	"loop.example/g00031/impl"
)

// emptyImage has as many frames as its chip asks for, and in these nothing.
func emptyImage(c impl.Chip) impl.Image {
	m := impl.Image{Chip: c}
	for range c.Wide * c.High {
		m.Tiles = append(m.Tiles, strings.Repeat("\x00", 7+4*c.Tracks))
	}
	for range c.High {
		m.Rows = append(m.Rows, strings.Repeat("\x00", c.Tracks+c.Pads))
	}
	return m
}

// wantsImage holds ImageOK, and what is told of it, against what is asked.
func wantsImage(t *testing.T, what string, m impl.Image, want bool) {
	t.Helper()
	if got := impl.ImageOK(m); got != want || imageTold(m) != want {
		t.Errorf("%s: %.300s: ImageOK %v, told %v", what, imageShown(m), got, imageTold(m))
	}
}

// aPlace is a place in a frame of an image's frames, tiles' ahead of rows', and what may stand there.
type aPlace struct {
	frame, place int
	may          string
}

// wantsBytes puts each byte at each of these places.
func wantsBytes(t *testing.T, m impl.Image, places []aPlace) {
	t.Helper()
	frames := imageFrames(&m)
	for _, at := range places {
		frame := frames[at.frame]
		was := *frame
		for told := range 256 {
			*frame = withByte(was, at.place, told)
			want := at.may == "all" || slices.Contains(strings.Fields(at.may), fmt.Sprint(told))
			wantsImage(t, fmt.Sprintf("frame %d, place %d: %d", at.frame, at.place, told), m, want)
		}
		*frame = was
	}
}

// Each byte at each place of a tile's frame, on a chip of 3 by 2 tiles with 2 tracks: each tile has wires of its own.
func TestImageTileBytes(t *testing.T) {
	m := emptyImage(impl.Chip{Wide: 3, High: 2, Tracks: 2, Pads: 2})
	m.Clocks = []string{"c", "d", "e"}
	m.Regs = portsRead("r:4 s:1")
	m.Tiles[1], m.Tiles[4] = withByte(m.Tiles[1], 2, 1), withByte(m.Tiles[4], 2, 1)
	wantsImage(t, "all", m, true)
	var places []aPlace
	for tile, of := range []struct{ flags, inputs, wires, leave string }{
		{"0", "0 1 2 3 6 7 8 9", "0 1 2 4 5", "0 1"},
		{"1 3 5 7 9 11", "0 1 2 3 6 7 8 9", "0 1 2 4 5", "0 1 2"},
		{"0", "0 1 2 3 8 9", "0 1 2 5", "0 1 2"},
		{"0", "0 1 2 3 4 5 6 7", "0 1 2 3 4", "0 3"},
		{"1 3 5 7 9 11", "0 1 2 3 4 5 6 7", "0 1 2 3 4", "0 2 3"},
		{"0", "0 1 2 3 4 5", "0 1 2 3", "0 2 3"},
	} {
		places = append(places, aPlace{tile, 0, "all"}, aPlace{tile, 1, "all"}, aPlace{tile, 2, of.flags})
		for input := range 4 {
			places = append(places, aPlace{tile, 3 + input, of.inputs})
		}
		for dir := range 4 {
			may := "0"
			if strings.Contains(of.leave, fmt.Sprint(dir)) {
				may = of.wires
			}
			places = append(places, aPlace{tile, 7 + 2*dir, may}, aPlace{tile, 8 + 2*dir, may})
		}
	}
	wantsBytes(t, m, places)
}

// Chips of one tile, of the most clocks, and of the most tracks, where the greatest bytes stand.
func TestImageGreatestBytes(t *testing.T) {
	m := emptyImage(impl.Chip{Wide: 1, High: 1, Tracks: 1, Pads: 1})
	wantsBytes(t, m, []aPlace{{0, 2, "0"}, {0, 3, "0 1 2"}, {0, 6, "0 1 2"}, {0, 7, "0 1 2"}, {0, 8, "0"}, {0, 9, "0"}, {0, 10, "0"}, {1, 0, "0"}, {1, 1, "0"}})
	m.Ins, m.Outs = []string{"a"}, []string{"y"}
	wantsBytes(t, m, []aPlace{{1, 0, "0 1"}, {1, 1, "0 1"}})
	m.Clocks = strings.Fields("a0 a1 a2 a3 a4 a5 a6 a7")
	m.Regs = portsRead("r:0")
	m.Tiles[0] = withByte(m.Tiles[0], 2, 1)
	wantsBytes(t, m, []aPlace{{0, 2, "1 3 5 7 9 11 13 15 17 19 21 23 25 27 29 31"}})
	m.Clocks = m.Clocks[:1]
	wantsBytes(t, m, []aPlace{{0, 2, "1 3"}})
	m = emptyImage(impl.Chip{Wide: 3, High: 3, Tracks: 8, Pads: 4})
	inputs := strings.Trim(fmt.Sprint(rising(34)), "[]")
	wantsBytes(t, m, []aPlace{{4, 3, inputs}, {4, 6, inputs}, {4, 7, "0 1 2 3 4 5"}, {4, 38, "0 1 2 3 4 5"}})
}

// Each byte at each place of a row's frame: inputs a and c come in at row 0, b at row 1; outs and a check go out there in the same way.
func TestImageRowBytes(t *testing.T) {
	m := emptyImage(impl.Chip{Wide: 1, High: 2, Tracks: 3, Pads: 2})
	m.Ins, m.Outs, m.Checks = strings.Fields("a b c"), strings.Fields("y z"), []string{"k"}
	wantsImage(t, "all", m, true)
	tracks := "0 1 2 3"
	wantsBytes(t, m, []aPlace{
		{2, 0, "0 1 2"}, {2, 1, "0 1 2"}, {2, 2, "0 1 2"}, {2, 3, tracks}, {2, 4, tracks},
		{3, 0, "0 1"}, {3, 1, "0 1"}, {3, 2, "0 1"}, {3, 3, tracks}, {3, 4, "0"},
	})
	m.Ins, m.Outs, m.Checks = m.Ins[:1], nil, strings.Fields("k l m n")
	wantsBytes(t, m, []aPlace{{2, 0, "0 1"}, {2, 3, tracks}, {2, 4, tracks}, {3, 0, "0"}, {3, 2, "0"}, {3, 3, tracks}, {3, 4, tracks}})
	m.Ins, m.Outs, m.Checks = nil, []string{"y"}, nil
	wantsBytes(t, m, []aPlace{{2, 0, "0"}, {2, 3, tracks}, {2, 4, "0"}, {3, 0, "0"}, {3, 3, "0"}, {3, 4, "0"}})
}

// Each side of a chip at the least and the most that there may be, and one beyond.
func TestImageChip(t *testing.T) {
	for side, most := range []int{8, 8, 8, 4} {
		for of, want := range map[int]bool{0: false, 1: true, most: true, most + 1: false} {
			c := impl.Chip{Wide: 2, High: 2, Tracks: 2, Pads: 2}
			*[]*int{&c.Wide, &c.High, &c.Tracks, &c.Pads}[side] = of
			wantsImage(t, fmt.Sprint(c), emptyImage(c), want)
		}
	}
	wantsImage(t, "nothing", impl.Image{}, false)
	wantsImage(t, "beyond all", impl.Image{Chip: impl.Chip{Wide: 1 << 62, High: 4, Tracks: 1 << 62, Pads: 1 << 62}}, false)
	wantsImage(t, "below all", impl.Image{Chip: impl.Chip{Wide: -2, High: -2, Tracks: 1, Pads: 1}, Tiles: []string{"", "", "", ""}}, false)
}

// Too few frames and too many, and each frame too short and too long.
func TestImageFrames(t *testing.T) {
	right := imageRead(theImage)
	wantsImage(t, "theImage", right, true)
	for what, bend := range map[string]func(m *impl.Image){
		"no tile":        func(m *impl.Image) { m.Tiles = nil },
		"too few tiles":  func(m *impl.Image) { m.Tiles = m.Tiles[:1] },
		"too many tiles": func(m *impl.Image) { m.Tiles = append(m.Tiles, strings.Repeat("\x00", 15)) },
		"too many tiles, of which the last one is as long as a row": func(m *impl.Image) { m.Tiles = append(m.Tiles, m.Rows[0]) },
		"too many tiles, and no row":                                func(m *impl.Image) { m.Tiles, m.Rows = append(m.Tiles, m.Rows[0]), nil },
		"no row":                                                    func(m *impl.Image) { m.Rows = nil },
		"too many rows":                                             func(m *impl.Image) { m.Rows = append(m.Rows, "\x00\x00\x00\x00") },
		"a row more, a tile less": func(m *impl.Image) {
			m.Rows, m.Tiles = append(m.Rows, m.Tiles[1]), m.Tiles[:1]
		},
	} {
		m := copiedImage(right)
		bend(&m)
		wantsImage(t, what, m, false)
	}
	for number := range 3 {
		m := copiedImage(right)
		frame := imageFrames(&m)[number]
		was := *frame
		for _, other := range []string{"", was[1:], was[:len(was)-1], was + "\x00"} {
			*frame = other
			wantsImage(t, fmt.Sprint("frame ", number), m, false)
		}
	}
}

// A tile has a register just if one of Regs is there, each once.
func TestImageRegisters(t *testing.T) {
	for _, of := range []struct {
		flags, regs string
		want        bool
	}{
		{"00 00 00 00", "", true}, {"01 00 00 00", "r:0", true}, {"00 00 00 03", "r:3", true}, {"01 05 03 07", "r:3 s:0 q:2 p:1", true},
		{"01 00 00 00", "", false}, {"00 00 00 01", "", false}, {"00 00 00 00", "r:0", false}, {"01 00 00 00", "r:1", false}, {"01 01 00 00", "r:0", false},
		{"01 00 00 00", "r:0 s:1", false}, {"01 00 00 00", "r:0 s:0", false}, {"01 01 00 00", "r:0 s:0", false}, {"01 00 00 00", "r:0 s:4", false}, {"01 00 00 00", "r:0 s:-1", false},
		{"00 00 00 01", "r:4", false}, {"01 00 00 00", "r:-1", false}, {"01 00 00 00", "r:4611686018427387904", false},
		// flags without a register, and clocks that are not there
		{"02 00 00 00", "", false}, {"04 00 00 00", "", false}, {"06 00 00 00", "", false}, {"06 00 00 00", "r:0", false}, {"09 00 00 00", "r:0", false}, {"0b 00 00 00", "r:0", false}, {"fd 00 00 00", "r:0", false},
	} {
		m := emptyImage(impl.Chip{Wide: 2, High: 2, Tracks: 1, Pads: 1})
		m.Clocks, m.Regs = []string{"c", "d"}, portsRead(of.regs)
		for tile, flags := range strings.Fields(of.flags) {
			m.Tiles[tile] = withByte(m.Tiles[tile], 2, int(frameRead(flags)[0]))
		}
		wantsImage(t, of.flags+" "+of.regs, m, of.want)
	}
	m := emptyImage(impl.Chip{Wide: 1, High: 1, Tracks: 1, Pads: 1})
	m.Regs = portsRead("r:0")
	m.Tiles[0] = withByte(m.Tiles[0], 2, 1)
	wantsImage(t, "no clock at all", m, false)
	m.Regs = slices.Repeat(portsRead("r:0"), 100000)
	wantsImage(t, "many registers", m, false)
}

// There must be pads for all inputs, and for all outs and checks.
func TestImagePads(t *testing.T) {
	for _, of := range []struct {
		ins, outs, checks string
		want              bool
	}{
		{"a b", "y z", "", true}, {"a b", "", "k l", true}, {"a b", "y", "k", true},
		{"a b d", "", "", false}, {"", "y z w", "", false}, {"", "", "k l m", false}, {"", "y z", "k", false}, {"", "y", "k l", false},
	} {
		for _, c := range []impl.Chip{{Wide: 2, High: 2, Tracks: 1, Pads: 1}, {Wide: 1, High: 1, Tracks: 1, Pads: 2}} {
			m := emptyImage(c)
			m.Clocks = []string{"c"}
			m.Ins, m.Outs, m.Checks = strings.Fields(of.ins), strings.Fields(of.outs), strings.Fields(of.checks)
			wantsImage(t, fmt.Sprint(of), m, of.want)
		}
	}
	whole := emptyImage(impl.Chip{Wide: 1, High: 8, Tracks: 1, Pads: 4})
	for i := range 32 {
		whole.Ins, whole.Outs = append(whole.Ins, fmt.Sprint("i", i)), append(whole.Outs, fmt.Sprint("o", i))
	}
	wantsImage(t, "all pads", whole, true)
	whole.Checks = []string{"k"}
	wantsImage(t, "a check more", whole, false)
}

// Names are as those of a graph: inputs and clocks together, registers, outs and checks each unlike each other.
func TestImageNames(t *testing.T) {
	long := strings.Repeat("n", 1000)
	right := imageRead("2,1,2,2 | a b | c d | r:0 s:1 | y z | k l | 0000.01.00000000.0000.0000.0000.0000 0000.01.00000000.0000.0000.0000.0000 | 0000.0000")
	right.Chip.Pads = 4
	right.Rows[0] += "\x00\x00"
	for number := range len(imageNames(&right)) {
		for other, want := range map[string]bool{"": false, "x": true, long: true, long + "n": false, "\x00\xff": true, strings.Repeat("n", 70000): false} {
			m := copiedImage(right)
			*imageNames(&m)[number] = other
			wantsImage(t, fmt.Sprint("name ", number), m, want)
		}
	}
	// in the order of imageNames
	kinds := []string{"in", "in", "in", "in", "out", "out", "check", "check", "reg", "reg"}
	for number, kind := range kinds {
		for other, otherKind := range kinds {
			m := copiedImage(right)
			names := imageNames(&m)
			*names[number] = *names[other]
			wantsImage(t, fmt.Sprint("name ", number, " as ", other), m, number == other || kind != otherKind)
		}
	}
	m := copiedImage(right)
	m.Clocks = strings.Fields("c0 c1 c2 c3 c4 c5 c6 c7")
	wantsImage(t, "8 clocks", m, true)
	m.Clocks = append(m.Clocks, "c8")
	wantsImage(t, "9 clocks", m, false)
}
