package tests

import (
	"fmt"
	"slices"
	"strings"
	"testing"

	"loop.example/g00031/impl"
)

// oneStep is a step without any inputs or clocks.
func oneStep() []impl.Step { return []impl.Step{{}} }

// wantsRun holds DeviceRun, and what is told of it, against rows.
func wantsRun(t *testing.T, what string, m impl.Image, steps []impl.Step, want string) {
	t.Helper()
	rows, code := holdDevice(t, m, steps)
	if got := rowsWritten(rows); code != impl.OK || got != want {
		t.Errorf("%s: %s: code %d: %s, want %s", what, imageShown(m), code, got, want)
	}
}

// wantsNoRun holds DeviceRun, and what is told of it, against a code.
func wantsNoRun(t *testing.T, what string, m impl.Image, steps []impl.Step, want int) {
	t.Helper()
	if rows, code := holdDevice(t, m, steps); code != want || rows != nil {
		t.Errorf("%s: %s: code %d, want %d: %s", what, imageShown(m), code, want, rowsWritten(rows))
	}
}

func TestDeviceRun(t *testing.T) {
	// y is r and b
	wantsRun(t, "theImage", imageRead(theImage), stepsOf("0 1/.; 0 1/t; 1 0/t; 0 1/."), "1//1; 0//0; 0//1; 1//1")
	wantsRun(t, "no steps", imageRead(theImage), nil, "")
	for what, of := range map[string]struct{ image, steps, want string }{
		"a ring of registers that do not stand in their order, of which two have one clock": {
			"3,1,1,1 |  | c d | r:2 s:0 q:1 | y |  | aaaa.03.04000000.01.00.00.00 aaaa.05.02000000.01.00.04.00 aaaa.01.02000000.01.00.01.00 | 00.01",
			"/..; /tt; /t.; /.t; /t.; /tt", "0//0 1 0; 0//0 0 1; 1//1 0 1; 1//1 0 0; 0//0 1 0; 0//0 0 1",
		},
		"pads of two rows, at some of which nothing is told": {
			"1,2,1,2 | a b d |  |  | y z w | k | 0000.00.00000000.02.00.00.00 0000.00.00000000.02.00.00.00 | 02.0100 01.0001",
			"1 0 0/; 0 1 0/; 0 0 1/; 1 1 1/", "0 0 0/0/; 0 0 0/1/; 1 0 0/0/; 1 0 0/1/",
		},
		"a table that reads by its last input alone": {
			"1,1,1,1 | a |  |  | y |  | 0001.00.00000002.01.00.00.00 | 01.01", "0/; 1/", "0//; 1//",
		},
		"a table that reads a wire of which nothing is told": {
			"2,1,1,1 |  |  |  | y |  | ffff.00.00000000.00.00.00.00 0100.00.02000000.01.00.00.00 | 00.01", "/", "1//",
		},
		"a table that reads a wire at the left of which nothing is told": {
			"1,1,1,1 | a |  |  | y |  | 0100.00.02000000.01.00.00.00 | 00.01", "0/; 1/", "1//; 1//",
		},
		"a table that is 1 with nothing to read, and one that is 0": {
			"1,2,1,1 |  |  |  | y | k | 0100.00.00000000.01.00.00.00 feff.00.00000000.01.00.00.00 | 00.01 00.01", "/", "1/0/",
		},
		"a register that reads itself and goes to and fro": {
			"1,1,1,1 |  | c | r:0 | y |  | 5555.01.01000000.01.00.00.00 | 00.01", "/.; /t; /t; /.; /t", "0//0; 1//1; 0//0; 0//0; 1//1",
		},
		"two outs and a check of one wire": {
			"1,1,1,3 | a |  |  | y z | k | aaaa.00.02000000.01.00.00.00 | 01.010101", "1/; 0/", "1 1/1/; 0 0/0/",
		},
		"one input at two tables, and both tables at one": {
			"2,2,1,1 | a |  |  | y |  | 5555.00.02000000.01.01.00.00 2222.00.02050000.01.00.00.00 aaaa.00.03000000.01.00.00.00 5555.00.02000000.00.00.00.01 | 01.01 00.00",
			"0/; 1/", "1//; 0//",
		},
		"the last clock of eight": {
			"1,1,1,1 |  | c0 c1 c2 c3 c4 c5 c6 c7 | r:0 | y |  | ffff.1d.00000000.01.00.00.00 | 00.01", "/........; /ttttttt.; /.......t", "0//0; 0//0; 1//1",
		},
	} {
		wantsRun(t, what, imageRead(of.image), stepsOf(of.steps), of.want)
	}
}

// Each row of a table, by all four of its inputs.
func TestDeviceTables(t *testing.T) {
	m := imageRead("1,1,4,4 | a b d e |  |  | y |  | 0000.00.02030405.01000000.00000000.00000000.00000000 | 01020304.01000000")
	for _, table := range []int{0, 1, 0x8000, 0x1234, 0xfedc, 0x6996, 0xaaaa, 0xff00, 0xffff} {
		m.Tiles[0] = withByte(withByte(m.Tiles[0], 0, table%256), 1, table/256)
		for row := range 16 {
			step := impl.Step{}
			for input := range 4 {
				step.Ins = append(step.Ins, fmt.Sprint(row>>input&1))
			}
			wantsRun(t, fmt.Sprintf("table %x", table), m, []impl.Step{step}, fmt.Sprint(table>>row&1, "//"))
		}
	}
}

// A tile in the middle of nine, which has all wires that can come in: each of them by itself, from the neighbour on that side.
func TestDeviceWires(t *testing.T) {
	c := impl.Chip{Wide: 3, High: 3, Tracks: 2, Pads: 1}
	from := []int{3, 1, 5, 7}
	for dir, tile := range from {
		for track := range 2 {
			m := emptyImage(c)
			m.Outs = []string{"x", "y", "z"}
			// the middle one says what comes in, and the tile beyond it tells that
			m.Tiles[4] = "\xaa\xaa\x00" + string([]byte{byte(2 + 2*dir + track)}) + m.Tiles[4][4:]
			m.Tiles[4] = withByte(m.Tiles[4], 7, 1)
			m.Tiles[5] = withByte(m.Tiles[5], 7, 2)
			m.Rows[1] = withByte(m.Rows[1], 2, 1)
			m.Tiles[tile] = "\xff\xff" + m.Tiles[tile][2:]
			wantsRun(t, "no wire", m, oneStep(), "0 0 0//")
			for other := range 8 {
				neighbour := from[other/2]
				n := copiedImage(m)
				n.Tiles[neighbour] = withByte(withByte(n.Tiles[neighbour], 7+other, 1), 0, 255)
				n.Tiles[neighbour] = withByte(n.Tiles[neighbour], 1, 255)
				want := "0 0 0//"
				if other == 2*dir+track {
					want = "0 1 0//"
				}
				wantsRun(t, fmt.Sprint("wire ", other, " read by ", dir, " ", track), n, oneStep(), want)
			}
		}
	}
}

// wayBack is a chip of 8 by 8 tiles on which the first tile's value goes through all tiles, row by row to and fro, and the same way back to it.
func wayBack() impl.Image {
	m := emptyImage(impl.Chip{Wide: 8, High: 8, Tracks: 1, Pads: 1})
	var way []int
	for tile := range 64 {
		if tile/8%2 == 1 {
			tile = tile/8*8 + 7 - tile%8
		}
		way = append(way, tile)
	}
	back := slices.Clone(way)
	slices.Reverse(back)
	course := map[int]int{1: 0, 8: 1, -1: 2, -8: 3}
	came := -1
	for _, tiles := range [][]int{way, back} {
		for i, tile := range tiles[:63] {
			dir := course[tiles[i+1]-tile]
			m.Tiles[tile] = withByte(m.Tiles[tile], 7+dir, 2+came)
			came = dir
		}
	}
	m.Tiles[0] = "\x55\x55\x00\x04" + m.Tiles[0][4:]
	return m
}

// A way over as many wires as there are between tiles to and fro.
func TestDeviceLongWay(t *testing.T) {
	m := wayBack()
	m.Clocks, m.Regs = []string{"c"}, portsRead("r:0")
	m.Tiles[0] = withByte(m.Tiles[0], 2, 1)
	wantsRun(t, "a register", m, stepsOf("/t; /.; /t"), "//1; //1; //0")
	// the first wire goes on from the last one
	loop := copiedImage(m)
	loop.Tiles[0] = withByte(loop.Tiles[0], 7, 4)
	wantsNoRun(t, "wires alone", loop, nil, impl.ErrLoop)
	// nothing but the out comes to the tile, by the wire that goes back
	m = wayBack()
	m.Outs = []string{"y"}
	m.Tiles[7] = withByte(m.Tiles[7], 7, 5)
	wantsRun(t, "nothing comes there", m, oneStep(), "0//")
	m.Rows[0] = withByte(m.Rows[0], 1, 1)
	wantsNoRun(t, "a table", m, nil, impl.ErrLoop)
	m.Tiles[0] = withByte(m.Tiles[0], 3, 0)
	wantsRun(t, "a table that reads nothing", m, oneStep(), "1//")
}

// Loops: what is come to from an out, a check or a register's table must not hang on itself, whatever the tables tell.
func TestDeviceLoops(t *testing.T) {
	for what, image := range map[string]string{
		"a table that reads itself": "1,1,1,1 |  |  |  | y |  | aaaa.00.01000000.01.00.00.00 | 00.01",
		"one at a check":            "1,1,1,1 |  |  |  |  | k | aaaa.00.01000000.01.00.00.00 | 00.01",
		"one by its last input, of which its table tells nothing": "1,1,1,1 |  |  |  | y |  | ffff.00.00000001.01.00.00.00 | 00.01",
		"one whose table is 0":                              "1,1,1,1 |  |  |  | y |  | 0000.00.01010101.01.00.00.00 | 00.01",
		"one behind a register":                             "2,1,1,1 |  | c | r:1 |  |  | aaaa.00.01000000.01.00.00.00 aaaa.01.02000000.00.00.00.00 | 00.00",
		"one behind a table":                                "2,1,1,1 |  |  |  | y |  | aaaa.00.01000000.01.00.00.00 aaaa.00.02000000.01.00.00.00 | 00.01",
		"two tables that read each other":                   "2,1,1,1 |  |  |  | y |  | aaaa.00.04000000.01.00.00.00 aaaa.00.02000000.01.00.01.00 | 00.01",
		"two tables behind a register that read each other": "3,1,1,1 |  | c | r:2 |  |  | aaaa.00.04000000.01.00.00.00 aaaa.00.02000000.01.00.01.00 aaaa.01.02000000.00.00.00.00 | 00.00",
		"a table that reads itself by a wire to and fro":    "2,1,1,1 |  |  |  | y |  | aaaa.00.04000000.01.00.00.00 0000.00.00000000.02.00.02.00 | 00.01",
		"wires to and fro at an out":                        "2,1,1,1 |  |  |  | y |  | 0000.00.00000000.04.00.00.00 0000.00.00000000.02.00.02.00 | 00.01",
		"wires to and fro at a check":                       "2,1,1,1 |  |  |  |  | k | 0000.00.00000000.04.00.00.00 0000.00.00000000.02.00.02.00 | 00.01",
		"wires to and fro at a register's table":            "2,1,1,1 |  | c | r:1 |  |  | 0000.00.00000000.04.00.00.00 0000.01.02000000.00.00.02.00 | 00.00",
		"wires to and fro at a table":                       "2,1,1,1 |  |  |  | y |  | 0000.00.00000000.04.00.00.00 0000.00.00000002.01.00.02.00 | 00.01",
		"wires round four tiles":                            "2,2,1,1 |  |  |  | y |  | 0000.00.00000000.05.00.00.00 0000.00.00000000.02.02.00.00 0000.00.00000000.00.00.00.04 0000.00.00000000.00.00.03.00 | 00.01 00.00",
		"wires round four tiles the other way":              "2,2,1,1 |  |  |  |  | k | 0000.00.00000000.00.04.00.00 0000.00.00000000.05.00.05.00 0000.00.00000000.03.00.00.00 0000.00.00000000.00.00.00.02 | 00.01 00.00",
		"wires round four tiles and a table":                "2,2,1,1 |  |  |  | y |  | 0000.00.00000000.05.00.00.00 aaaa.00.02000000.01.01.00.00 0000.00.00000000.00.00.00.04 0000.00.00000000.00.00.03.00 | 00.01 00.00",
		"a loop on the second track":                        "2,1,2,1 |  |  |  | y |  | 0000.00.00000000.0104.0000.0000.0000 0000.00.00000000.0202.0000.0002.0000 | 0000.02",
		"a loop at the second out":                          "2,1,2,2 |  |  |  | x y |  | 0000.00.00000000.0104.0000.0000.0000 0000.00.00000000.0202.0000.0002.0000 | 0000.0102",
	} {
		m := imageRead(image)
		wantsNoRun(t, what, m, nil, impl.ErrLoop)
		// it is looked for behind the steps
		wantsNoRun(t, what, m, stepsOf("0 0/"), impl.ErrBad)
		// where nothing comes to it, it is no fault
		m.Outs, m.Checks = nil, nil
		for _, r := range m.Regs {
			m.Tiles[r.Src] = withByte(m.Tiles[r.Src], 2, 0)
		}
		m.Regs = nil
		for row := range m.Rows {
			m.Rows[row] = strings.Repeat("\x00", len(m.Rows[row]))
		}
		wantsRun(t, what+", but nothing comes to it", m, []impl.Step{{Ticks: make([]bool, len(m.Clocks))}}, "//")
	}
}

// What looks like a loop but is none.
func TestDeviceNoLoops(t *testing.T) {
	for what, of := range map[string]struct{ image, steps, want string }{
		"a register that reads itself":                  {"1,1,1,1 |  | c | r:0 | y |  | 5555.01.01000000.01.00.00.00 | 00.01", "/t; /t", "1//1; 0//0"},
		"a register and a table that read each other":   {"2,1,1,1 |  | c | r:0 | y |  | 5555.01.04000000.01.00.00.00 aaaa.00.02000000.01.00.01.00 | 00.01", "/.; /t; /t", "0//0; 1//1; 0//0"},
		"two registers that read each other":            {"2,1,1,1 |  | c | r:0 s:1 | y |  | 5555.01.04000000.01.00.00.00 aaaa.01.02000000.01.00.01.00 | 00.01", "/t; /t; /t", "0//1 0; 1//1 1; 1//0 1"},
		"a register behind wires to and fro":            {"2,1,1,1 |  | c | r:0 | y |  | 5555.03.04000000.01.00.00.00 0000.00.00000000.02.00.02.00 | 00.01", "/.; /t; /t", "1//1; 0//0; 1//1"},
		"a loop on another track":                       {"2,1,2,1 |  |  |  | y |  | ffff.00.00000000.0104.0000.0000.0000 0000.00.00000000.0202.0000.0002.0000 | 0000.01", "/", "1//"},
		"a loop at a wire that goes out at no pad":      {"2,1,1,1 |  |  |  | y |  | 0000.00.00000000.04.00.00.00 0000.00.00000000.02.00.02.00 | 00.00", "/", "0//"},
		"a table that nothing reads reads itself":       {"2,1,1,1 |  |  |  | y |  | aaaa.00.01000000.01.00.00.00 ffff.00.00000000.01.00.00.00 | 00.01", "/", "1//"},
		"one table read twice by one and by two others": {"3,1,1,1 | a |  |  | y | | aaaa.00.02000000.01.00.00.00 6666.00.02020000.01.00.00.00 9999.00.02020000.01.00.00.00 | 01.01", "0/; 1/", "1//; 1//"},
		"two tracks to and fro that are not one":        {"2,1,2,1 |  |  |  | y |  | ffff.00.00000000.0401.0000.0000.0000 aaaa.00.03000000.0200.0000.0101.0000 | 0000.01", "/", "1//"},
	} {
		wantsRun(t, what, imageRead(of.image), stepsOf(of.steps), of.want)
	}
}

// Steps must be right: each input one known bit, and a tick for each clock.
func TestDeviceSteps(t *testing.T) {
	m := imageRead(theImage)
	for _, steps := range []string{
		"0 0/.; x 0/t", "z 0/t", "0 x/t", "0 z/t", "00 0/t", "0 01/t", "2 0/t", "0/t", "0 0 0/t", "/t", "0 0/", "0 0/tt", "0 0/t; 0 0/", "1 1/t; 1 1/t; 1 -/t",
	} {
		wantsNoRun(t, steps, m, stepsOf(steps), impl.ErrBad)
	}
	wantsNoRun(t, "an empty input", m, []impl.Step{{Ins: []string{"", "0"}, Ticks: []bool{true}}}, impl.ErrBad)
	wantsNoRun(t, "an empty step", m, []impl.Step{{}}, impl.ErrBad)
	wantsNoRun(t, "no image", impl.Image{}, nil, impl.ErrBad)
	right := stepsOf("0 1/t")
	if rows, code := impl.DeviceRun(m, slices.Repeat(right, 4096)); code != impl.OK || len(rows) != 4096 {
		t.Errorf("code %d, %d rows", code, len(rows))
	}
	wantsNoRun(t, "too many", m, slices.Repeat(right, 4097), impl.ErrLong)
	wantsNoRun(t, "too many wrong ones", m, slices.Repeat(stepsOf("x 1/"), 4097), impl.ErrLong)
	wantsNoRun(t, "too many for no image", impl.Image{}, slices.Repeat(right, 4097), impl.ErrLong)
	wantsNoRun(t, "the last one of most", m, append(slices.Repeat(right, 4095), impl.Step{}), impl.ErrBad)
}
