package tests

import (
	"fmt"
	"testing"

	"loop.example/g00031/impl"
)

// layoutRead reads a packed design, its tiles and its nets.
func layoutRead(p string, c impl.Chip, tiles, nets string) layout {
	return layout{packRead(p), c, numbersRead(tiles), netsRead(nets)}
}

// theLayout is what theImage is of.
func theLayout() layout {
	return layoutRead("a b | c | r=1<0=2@0 1,2=8 | y:3", impl.Chip{Wide: 2, High: 1, Tracks: 2, Pads: 2}, "0 1", "-1,0,0,0 | -1,0,0,1 0,0,0,1<0 | 0,0,0,0 | 1,0,0,0")
}

func TestImageOf(t *testing.T) {
	for what, of := range map[string]struct {
		l    layout
		want string
	}{
		"a register and a table": {theLayout(), theImage},
		"nothing on the least chip": {
			layoutRead("", impl.Chip{Wide: 1, High: 1, Tracks: 1, Pads: 1}, "", "none"),
			"1,1,1,1 |  |  |  |  |  | 0000.00.00000000.00.00.00.00 | 00.00",
		},
		"an input over several wires to two tiles, of which one lies below": {
			layoutRead("a | | 0=2 0=1 | y:1 z:2", impl.Chip{Wide: 3, High: 2, Tracks: 2, Pads: 1}, "2 3", "-1,0,0,1 0,0,0,1<0 1,0,0,1<1 0,0,1,1<0 | 2,0,0,0 | 0,1,0,0 1,1,0,0<0 2,1,0,0<1"),
			"3,2,2,1 | a |  |  | y z |  | 0000.00.00000000.0002.0002.0000.0000 0000.00.00000000.0002.0000.0000.0000 aaaa.00.03000000.0100.0000.0000.0000" +
				" 5555.00.05000000.0100.0000.0000.0000 0000.00.00000000.0200.0000.0000.0000 0000.00.00000000.0200.0000.0000.0000 | 0001.01 0000.01",
		},
		"two wires to a tile and to a pad, of which the first ones count": {
			layoutRead("a | | 0=2 | y:1", impl.Chip{Wide: 2, High: 1, Tracks: 2, Pads: 1}, "1", "-1,0,0,1 -1,0,0,0 0,0,0,0<1 0,0,0,1<0 | 1,0,0,1 1,0,0,0"),
			"2,1,2,1 | a |  |  | y |  | 0000.00.00000000.0202.0000.0000.0000 aaaa.00.02000000.0101.0000.0000.0000 | 0101.02",
		},
		"pads of two rows, and inputs that go straight on to them": {
			layoutRead("a b d e f | | | y:2 z:3 | k:4 q:1", impl.Chip{Wide: 1, High: 2, Tracks: 4, Pads: 3}, "", "| -1,1,0,3 0,1,0,3<0 | -1,0,0,2 0,0,0,2<0 | -1,1,0,0 0,1,0,0<0 | -1,0,0,1 0,0,0,1<0"),
			"1,2,4,3 | a b d e f |  |  | y z | k q | 0000.00.00000000.00020200.00000000.00000000.00000000 0000.00.00000000.02000002.00000000.00000000.00000000 | 00030200.030200 02000001.010400",
		},
		"wires that go on from each side": {
			layoutRead("a | | 0=2 | y:1", impl.Chip{Wide: 2, High: 2, Tracks: 1, Pads: 1}, "0", "-1,0,0,0 | 0,0,1,0 0,1,0,0<0 1,1,3,0<1 1,0,0,0<2 1,0,2,0<2 0,0,0,0<4"),
			"2,2,1,1 | a |  |  | y |  | aaaa.00.02000000.04.01.00.00 0000.00.00000000.05.00.05.00 0000.00.00000000.03.00.00.00 0000.00.00000000.00.00.00.02 | 01.01 00.00",
		},
		"registers on tiles that do not rise, which begin so and tick by three clocks": {
			layoutRead("| c d e | r=1<=0@2 =1 s=0<=1@0 q=1<0=2@1", impl.Chip{Wide: 2, High: 2, Tracks: 1, Pads: 1}, "3 0 2 1", "1,1,3,0 | | |"),
			"2,2,1,1 |  | c d e | r:3 s:2 q:1 |  |  | ffff.00.00000000.00.00.00.00 aaaa.07.05000000.00.00.00.00 ffff.01.00000000.00.00.00.00 0000.0b.00000000.00.00.00.01 | 00.00 00.00",
		},
		"a register that reads itself, beside an input and as its second input": {
			layoutRead("a | c | r=0<0,1=6@0 | y:1", impl.Chip{Wide: 1, High: 1, Tracks: 2, Pads: 1}, "0", "-1,0,0,1 | 0,0,0,1"),
			"1,1,2,1 | a | c | r:0 | y |  | 6666.01.03010000.0001.0000.0000.0000 | 0001.02",
		},
		"a net to nobody": {
			layoutRead("a | | =1", impl.Chip{Wide: 2, High: 1, Tracks: 1, Pads: 1}, "1", "-1,0,0,0 0,0,0,0<0 | 1,0,2,0"),
			"2,1,1,1 | a |  |  |  |  | 0000.00.00000000.02.00.00.00 ffff.00.00000000.00.00.01.00 | 01.00",
		},
	} {
		m, code := holdImageOf(t, of.l)
		if code != impl.OK || imageWritten(m) != of.want || !impl.ImageOK(m) {
			t.Errorf("%s: code %d:\n%s, want\n%s", what, code, imageWritten(m), of.want)
		}
	}
}

// A table of fewer than four inputs is the same for all that the inputs behind could be.
func TestImageTables(t *testing.T) {
	for block, want := range map[string]string{
		"=0": "0000.00.00000000", "=1": "ffff.00.00000000",
		"0=0": "0000.00.02000000", "0=1": "5555.00.02000000", "1=2": "aaaa.00.03000000", "0=3": "ffff.00.02000000",
		"0,1=1": "1111.00.02030000", "1,0=2": "2222.00.03020000", "0,1=8": "8888.00.02030000", "2,3=6": "6666.00.04050000", "0,1=15": "ffff.00.02030000",
		"0,1,2=150": "9696.00.02030400", "3,2,1=128": "8080.00.05040300", "0,1,2=1": "0101.00.02030400",
		"0,1,2,3=1": "0100.00.02030405", "3,2,1,0=32768": "0080.00.05040302", "0,1,2,3=4660": "3412.00.02030405",
	} {
		l := layoutRead("a b d e | | "+block, impl.Chip{Wide: 1, High: 1, Tracks: 4, Pads: 4}, "0", "-1,0,0,0 | -1,0,0,1 | -1,0,0,2 | -1,0,0,3 |")
		m, code := holdImageOf(t, l)
		if code != impl.OK || m.Tiles[0] != frameRead(want+".00000000.00000000.00000000.00000000") {
			t.Errorf("%s: code %d: %x", block, code, m.Tiles)
		}
	}
}

// What is no routed design has no image.
func TestImageOfWrong(t *testing.T) {
	for what, bend := range map[string]func(l *layout){
		"a table too great":            func(l *layout) { l.p.Blocks[0].Table = 4 },
		"a name twice":                 func(l *layout) { l.p.Ins[1] = "a" },
		"a source that is not there":   func(l *layout) { l.p.Outs[0].Src = 4 },
		"a chip that is none":          func(l *layout) { l.c.Pads = 5 },
		"a chip without a tile":        func(l *layout) { l.c.Wide = 0 },
		"a chip with too few pads":     func(l *layout) { l.c.Pads = 1 },
		"a chip with too few tiles":    func(l *layout) { l.c.Wide = 1 },
		"a chip with too few tracks":   func(l *layout) { l.c.Tracks = 1 },
		"a tile twice":                 func(l *layout) { l.tiles[1] = 0 },
		"a tile that is not there":     func(l *layout) { l.tiles[1] = 2 },
		"a tile less":                  func(l *layout) { l.tiles = l.tiles[:1] },
		"the tiles the other way":      func(l *layout) { l.tiles = []int{1, 0} },
		"a net less":                   func(l *layout) { l.nets = l.nets[:3] },
		"a net more":                   func(l *layout) { l.nets = append(l.nets, nil) },
		"a net that does not come":     func(l *layout) { l.nets[2] = nil },
		"an out to which none comes":   func(l *layout) { l.nets[3] = nil },
		"a wire that has two sources":  func(l *layout) { l.nets[2][0].Track = 1 },
		"a wire that is not there":     func(l *layout) { l.nets[3][0].Dir = 1 },
		"a wire that changes a track":  func(l *layout) { l.nets[1][1].Track = 0 },
		"a wire from another's source": func(l *layout) { l.nets[1][1].From = -1 },
		"nothing at all":               func(l *layout) { *l = layout{} },
	} {
		l := theLayout()
		bend(&l)
		m, code := holdImageOf(t, l)
		if code != impl.ErrBad || imageShown(m) != imageShown(impl.Image{}) || fmt.Sprint(m) != fmt.Sprint(impl.Image{}) {
			t.Errorf("%s: code %d: %v", what, code, m)
		}
	}
}
