package tests

import (
	"fmt"
	"slices"
	"strings"
	"testing"

	"loop.example/g00031/impl"
)

func TestRouteConstants(t *testing.T) {
	if impl.MaxIters != 24 {
		t.Error(impl.MaxIters)
	}
}

// trackChip is a chip of so many tiles and tracks, with all pads.
func trackChip(wide, high, tracks int) impl.Chip {
	return impl.Chip{Wide: wide, High: high, Tracks: tracks, Pads: 4}
}

// wantsNets holds RouteOK against what is told.
func wantsNets(t *testing.T, p impl.Packed, c impl.Chip, tiles []int, nets [][]impl.Hop, want bool) {
	t.Helper()
	if got := impl.RouteOK(p, c, tiles, nets); got != want || routeTold(p, c, tiles, nets) != want {
		t.Errorf("%s on %v: %v: %s: %v, told %v", packShown(p), c, tiles, netsWritten(nets), got, routeTold(p, c, tiles, nets))
	}
}

// Each wire that could be, of what stands where it leaves: an input for each row, a block on that tile.
func TestWires(t *testing.T) {
	for _, of := range [][4]int{
		// wide, high, tracks; how many wires a track has
		{1, 1, 1, 2}, {1, 1, 8, 2}, {8, 1, 1, 16}, {8, 1, 3, 16}, {1, 8, 1, 30}, {1, 8, 2, 30}, {2, 2, 1, 12}, {3, 2, 2, 18}, {2, 3, 5, 20}, {8, 8, 1, 240}, {8, 8, 8, 240},
	} {
		c := trackChip(of[0], of[1], of[2])
		there, told := 0, wiresTold(c)
		for x := -2; x <= c.Wide+1; x++ {
			for y := -2; y <= c.High+1; y++ {
				there += wiresFrom(t, c, x, y, told)
			}
		}
		if there != of[3]*c.Tracks {
			t.Errorf("%v: %d wires", c, there)
		}
	}
}

// wiresFrom counts the wires that leave a place.
func wiresFrom(t *testing.T, c impl.Chip, x, y int, told map[int]wireTold) int {
	t.Helper()
	isTold := map[[4]int]bool{}
	for _, w := range told {
		isTold[[4]int{w.x, w.y, w.dir, w.track}] = true
	}
	var p impl.Packed
	for i := range c.High {
		p.Ins = append(p.Ins, fmt.Sprint("i", i))
	}
	p.Blocks = []impl.Block{{}}
	source, tile := len(p.Ins), 0
	switch {
	case x == -1 && y >= 0 && y < c.High:
		source = y
	case x >= 0 && x < c.Wide && y >= 0 && y < c.High:
		tile = y*c.Wide + x
	}
	there := 0
	for dir := -2; dir <= 5; dir++ {
		for track := -2; track <= c.Tracks+1; track++ {
			nets := make([][]impl.Hop, len(p.Ins)+1)
			nets[source] = []impl.Hop{{X: x, Y: y, Dir: dir, Track: track, From: -1}}
			got := impl.RouteOK(p, c, []int{tile}, nets)
			if got != isTold[[4]int{x, y, dir, track}] {
				t.Errorf("%v: %s: %v", c, netsWritten(nets), got)
			}
			there += numberIf(got)
		}
	}
	return there
}

// Of a chip of 3 by 2 tiles and two tracks: the wires of each place, and those at its edges that are not there.
func TestWiresByHand(t *testing.T) {
	c := trackChip(3, 2, 2)
	const low, high = -1 << 63, 1<<63 - 1
	// directions that the places have, from x = -1 on
	rows := []string{"0 01 012 012", "0 03 023 023"}
	for y, row := range rows {
		for place, dirs := range strings.Fields(row) {
			for dir := range 4 {
				for track := range 2 {
					p, tiles := packRead("a b | | =0"), []int{max(0, y*3+place-1)}
					nets := netsRead("||")
					of := 2
					if place == 0 {
						of = y
					}
					nets[of] = []impl.Hop{{X: place - 1, Y: y, Dir: dir, Track: track, From: -1}}
					wantsNets(t, p, c, tiles, nets, strings.Contains(dirs, fmt.Sprint(dir)))
				}
			}
		}
	}
	for _, h := range []impl.Hop{
		{X: 1, Y: 1, Dir: -1}, {X: 1, Y: 1, Dir: 4}, {X: 1, Y: 1, Dir: low}, {X: 1, Y: 1, Dir: high}, {X: 1, Y: 1, Track: -1}, {X: 1, Y: 1, Track: 2}, {X: 1, Y: 1, Track: low}, {X: 1, Y: 1, Track: high},
		{X: low, Y: 1}, {X: low, Y: 1, Dir: 2}, {X: high, Y: 1}, {X: high, Y: 1, Dir: 2}, {X: 1, Y: low}, {X: 1, Y: low, Dir: 3}, {X: 1, Y: high, Dir: 1}, {X: 1, Y: high, Dir: 3}, {X: 3, Y: 1}, {X: 3, Y: 1, Dir: 2}, {X: -2, Y: 1}, {X: 1, Y: 2, Dir: 3}, {X: 1, Y: -1, Dir: 1},
	} {
		for _, from := range []int{-1, 0} {
			// behind one that is there, so that it may go on from it
			nets := netsRead("||1,1,0,1")
			h.From = from
			nets[2] = append(nets[2], h)
			wantsNets(t, packRead("a b | | =0"), c, []int{4}, nets, false)
		}
	}
}

// Nets of sources that nothing reads, a b d e at the left in rows 0, 1, 2 and 0, blocks on tiles 4 and 0 of 3 by 3, two tracks.
func TestRouteOKWires(t *testing.T) {
	p, c, tiles := packRead("a b d e | | =0 =0"), trackChip(3, 3, 2), []int{4, 0}
	for _, n := range []struct {
		nets string
		want bool
	}{
		// a net for each source
		{"| | | | |", true}, {"| | | |", false}, {"| | | | | |", false}, {"none", false}, {"", false},
		// from an input: x = -1 in its row
		{"-1,0,0,0 | | | | |", true}, {"-1,0,0,1 | | | | |", true}, {"| -1,1,0,0 | | | |", true}, {"| | -1,2,0,1 | | |", true}, {"| | | -1,0,0,0 | |", true}, {"-1,1,0,0 | | | | |", false}, {"| -1,0,0,0 | | | |", false}, {"| | | -1,1,0,0 | |", false},
		{"0,0,0,0 | | | | |", false}, {"| 0,1,0,0 | | | |", false}, {"-1,0,0,0 -1,0,0,1 | | | | |", true}, {"-1,0,1,0 | | | | |", false}, {"-1,0,2,0 | | | | |", false},
		// from a block: its own tile
		{"| | | | 1,1,0,0 |", true}, {"| | | | 1,1,1,1 1,1,2,0 1,1,3,0 |", true}, {"| | | | | 0,0,0,0 0,0,1,0", true}, {"| | | | 0,0,0,0 |", false}, {"| | | | 0,1,0,0 |", false}, {"| | | | 1,0,1,0 |", false}, {"| | | | | 1,1,0,0", false}, {"| | | | | -1,0,0,0", false}, {"| | | | -1,1,0,0 |", false},
		// going on: from the end of the other one, on the same track
		{"| | | | 1,1,0,0 2,1,1,0<0 |", true}, {"| | | | 1,1,0,0 2,1,0,0<0 |", true}, {"| | | | 1,1,0,0 2,1,2,0<0 |", true}, {"| | | | 1,1,0,1 2,1,3,1<0 2,1,1,1<0 |", true}, {"| | | | 1,1,1,0 1,2,2,0<0 0,2,3,0<1 0,1,3,0<2 0,0,0,0<3 |", true}, {"-1,0,0,1 0,0,1,1<0 | | | | |", true}, {"-1,0,0,1 0,0,0,1<0 0,0,1,1<0 1,0,1,1<1 | | | | |", true},
		{"| | | | 1,1,0,0 2,1,1,1<0 |", false}, {"| | | | 1,1,0,1 2,1,1,0<0 |", false}, {"| | | | 1,1,0,0 2,2,2,0<0 |", false}, {"| | | | 1,1,0,0 1,1,1,0<0 |", false}, {"| | | | 1,1,0,0 1,0,1,0<0 |", false}, {"| | | | 1,1,0,0 1,1,1,0 2,1,1,0<1 |", false}, {"| | | | 1,1,0,0 1,1,1,0 2,1,1,0<0 1,2,0,0<1 |", true}, {"-1,0,0,0 0,0,1,1<0 | | | | |", false},
		// none goes on from what left the chip, nor comes in but from an input
		{"| | | | 1,1,0,0 2,1,0,0<0 3,1,0,0<1 |", false}, {"| | | | 1,1,0,0 2,1,0,0<0 3,1,2,0<1 |", false}, {"| | | | 1,1,2,0 0,1,2,0<0 |", false}, {"| | | | 1,1,2,0 -1,1,0,0<0 |", false}, {"-1,0,0,0 -1,0,0,1<0 | | | | |", false},
		// its own place, one behind it, none, below -1
		{"| | | | 1,1,0,0<0 |", false}, {"| | | | 1,1,0,0 2,1,1,0<1 |", false}, {"| | | | 2,1,1,0<1 1,1,0,0 |", false}, {"| | | | 1,1,0,0 2,1,1,0<2 |", false}, {"| | | | 1,1,0,0 2,1,1,0<7 |", false}, {"| | | | 1,1,0,0<-2 |", false}, {"| | | | 1,1,0,0 2,1,1,0<-2 |", false}, {"| | | | 1,1,0,0 2,1,1,0<-9223372036854775808 |", false}, {"| | | | 1,1,0,0 2,1,1,0<9223372036854775807 |", false}, {"| | | | 1,1,0,0 2,1,1,0<4294967296 |", false},
		{"| | | | 2,1,2,0<1 1,1,0,0<0 |", false}, {"| | | | 1,1,0,0 2,1,1,0 |", false}, {"-1,0,0,0 0,0,0,0 | | | | |", false},
		// back to its own tile, and from there, from the source or not
		{"| | | | 1,1,0,0 2,1,2,0<0 1,1,1,0<1 |", true}, {"| | | | 1,1,0,0 2,1,2,0<0 1,1,1,0 |", true},
		// two that end at one place
		{"| | | | 1,1,0,0 2,1,1,0<0 1,1,1,0 1,2,0,0<2 2,2,0,0<3 |", true}, {"| | | | 1,1,0,0 2,1,1,0<0 1,1,1,0 1,2,0,0<2 2,2,0,0<1 |", true},
		// a wire twice: in one net, from the same and from another one, and in two
		{"| | | | 1,1,0,0 1,1,0,0 |", false}, {"| | | | 1,1,0,0 1,1,0,1 |", true}, {"| | | | 1,1,0,0 2,1,2,0<0 1,1,0,0<1 |", false}, {"| | | | 1,1,0,0 2,1,1,0<0 2,2,3,0<1 2,1,1,0<2 |", false}, {"-1,0,0,0 | | | -1,0,0,0 | |", false}, {"-1,0,0,0 | | | -1,0,0,1 | |", true},
		{"-1,0,0,0 0,0,0,0<0 | | | | | 0,0,0,0", false}, {"-1,0,0,0 0,0,0,0<0 | | | | | 0,0,0,1", true}, {"-1,0,0,0 0,0,0,0<0 | | | | | 0,0,1,0", true}, {"-1,0,0,0 0,0,0,0<0 | | | | 1,1,3,0 1,0,2,0<0 |", true}, {"| | | | 1,1,2,0 0,1,3,0<0 0,0,0,0<1 | 0,0,0,0", false},
	} {
		wantsNets(t, p, c, tiles, netsRead(n.nets), n.want)
	}
}

// Which ends must be come to.
func TestRouteOKEnds(t *testing.T) {
	for _, n := range []struct {
		text  string
		chip  [3]int
		tiles []int
		nets  string
		want  bool
	}{
		{"", [3]int{1, 1, 1}, nil, "none", true}, {"a", [3]int{1, 1, 1}, nil, "", true}, {"a", [3]int{1, 1, 1}, nil, "none", false},
		// a block on the next tile, by any track
		{"a | | 0=2", [3]int{1, 1, 2}, []int{0}, "-1,0,0,0 |", true}, {"a | | 0=2", [3]int{1, 1, 2}, []int{0}, "-1,0,0,1 |", true}, {"a | | 0=2", [3]int{1, 1, 2}, []int{0}, "|", false}, {"a | | 0=2", [3]int{2, 1, 2}, []int{1}, "-1,0,0,1 |", false}, {"a | | 0=2", [3]int{2, 1, 2}, []int{1}, "-1,0,0,1 0,0,0,1<0 |", true},
		// to a tile from another side than the shortest one
		{"| | =0 0=2", [3]int{2, 2, 1}, []int{0, 1}, "0,0,0,0 |", true}, {"| | =0 0=2", [3]int{2, 2, 1}, []int{0, 1}, "0,0,1,0 0,1,0,0<0 1,1,3,0<1 |", true}, {"| | =0 0=2", [3]int{2, 2, 1}, []int{0, 1}, "0,0,1,0 0,1,0,0<0 |", false},
		// wires beyond the end, and those that reach none
		{"| | =0 0=2", [3]int{2, 2, 1}, []int{0, 1}, "0,0,0,0 1,0,1,0<0 0,0,1,0 |", true}, {"| | =0 0=2", [3]int{2, 2, 1}, []int{0, 1}, "0,0,0,0 | 1,0,2,0", true},
		// another one's wire makes no odds
		{"| | =0 0=2 =0", [3]int{3, 1, 1}, []int{0, 1, 2}, "| | 2,0,2,0", false}, {"| | =0 0=2 =0", [3]int{3, 1, 1}, []int{0, 1, 2}, "0,0,0,0 | | 2,0,2,0", true}, {"a b | | 0=2", [3]int{1, 1, 2}, []int{0}, "| -1,0,0,0 |", false},
		// two blocks
		{"| | =0 0=2 0=2", [3]int{3, 1, 1}, []int{0, 1, 2}, "0,0,0,0 1,0,0,0<0 | |", true}, {"| | =0 0=2 0=2", [3]int{3, 1, 1}, []int{0, 1, 2}, "0,0,0,0 | |", false}, {"| | =0 0=2 0=2", [3]int{3, 1, 1}, []int{1, 0, 2}, "1,0,0,0 1,0,2,0 | |", true}, {"| | =0 0=2 0=2", [3]int{3, 1, 1}, []int{1, 0, 2}, "1,0,0,0 | |", false},
		// its own tile is no end
		{"| c | l=0<0=1@0", [3]int{2, 1, 1}, []int{0}, "", true}, {"| c | l=0<0=1@0 0=2", [3]int{2, 1, 1}, []int{0, 1}, "|", false}, {"| c | l=0<0=1@0 0=2", [3]int{2, 1, 1}, []int{0, 1}, "0,0,0,0 |", true},
		// outs and checks: x = Wide in their rows
		{"a | | | y:0", [3]int{1, 1, 1}, nil, "-1,0,0,0 0,0,0,0<0", true}, {"a | | | y:0", [3]int{1, 1, 1}, nil, "-1,0,0,0", false}, {"a | | | | k:0", [3]int{1, 1, 1}, nil, "-1,0,0,0", false}, {"a | | | | k:0", [3]int{1, 1, 1}, nil, "-1,0,0,0 0,0,0,0<0", true},
		{"| | =0 | y:0", [3]int{2, 2, 1}, []int{3}, "1,1,0,0", false}, {"| | =0 | y:0", [3]int{2, 2, 1}, []int{3}, "1,1,3,0 1,0,0,0<0", true}, {"| | =0 | y:0", [3]int{2, 2, 1}, []int{1}, "1,0,0,0", true}, {"| | =0 | y:0", [3]int{2, 2, 1}, []int{0}, "0,0,0,0", false},
		// the second one's row is 1, the third one's 0 again, the check's is behind the outs
		{"| | =0 =0 | y:0 z:1", [3]int{2, 2, 1}, []int{1, 3}, "1,0,0,0 | 1,1,0,0", true}, {"| | =0 =0 | y:1 z:0", [3]int{2, 2, 1}, []int{1, 3}, "1,0,0,0 | 1,1,0,0", false}, {"| | =0 =0 | y:0 | k:1", [3]int{2, 2, 1}, []int{1, 3}, "1,0,0,0 | 1,1,0,0", true}, {"| | =0 =0 | y:0 z:1 | k:0", [3]int{2, 2, 1}, []int{1, 3}, "1,0,0,0 | 1,1,0,0", true}, {"| | =0 =0 | y:0 z:1 | k:1", [3]int{2, 2, 1}, []int{1, 3}, "1,0,0,0 | 1,1,0,0", false},
		// of one source in one row one wire is enough, in two rows it is not
		{"| | =0 | y:0 | k:0", [3]int{2, 1, 1}, []int{1}, "1,0,0,0", true}, {"| | =0 | y:0 | k:0", [3]int{2, 2, 1}, []int{1}, "1,0,0,0", false}, {"| | =0 | y:0 | k:0", [3]int{2, 2, 1}, []int{1}, "1,0,0,0 1,0,1,0 1,1,0,0<1", true}, {"| | =0 | y:0 z:0 | k:0", [3]int{2, 2, 1}, []int{1}, "1,0,0,0 1,0,1,0 1,1,0,0<1", true},
		// a block on the last tile of the row is not the out
		{"| | =0 0=2 | y:0", [3]int{2, 1, 1}, []int{0, 1}, "0,0,0,0 |", false}, {"| | =0 0=2 | y:0", [3]int{2, 1, 1}, []int{0, 1}, "0,0,0,0 1,0,0,0<0 |", true}, {"| | =0 0=2 | y:0", [3]int{3, 1, 1}, []int{2, 1}, "2,0,0,0 |", false}, {"| | =0 0=2 | y:0", [3]int{3, 1, 1}, []int{2, 1}, "2,0,2,0 |", false},
		// all together, also on other tracks; on a track that another one has, or with a wire less
		{"a b | c | r=1<0=2@0 1,2=8 | y:3", [3]int{2, 1, 2}, []int{0, 1}, "-1,0,0,0 | -1,0,0,1 0,0,0,1<0 | 0,0,0,0 | 1,0,0,0", true}, {"a b | c | r=1<0=2@0 1,2=8 | y:3", [3]int{2, 1, 2}, []int{0, 1}, "-1,0,0,1 | -1,0,0,0 0,0,0,0<0 | 0,0,0,1 | 1,0,0,1", true}, {"a b | c | r=1<0=2@0 1,2=8 | y:3", [3]int{2, 1, 2}, []int{0, 1}, "-1,0,0,0 | -1,0,0,1 0,0,0,1<0 | 0,0,0,1 | 1,0,0,0", false}, {"a b | c | r=1<0=2@0 1,2=8 | y:3", [3]int{2, 1, 2}, []int{0, 1}, "-1,0,0,0 | -1,0,0,1 0,0,0,1<0 | 0,0,0,0 |", false}, {"a b | c | r=1<0=2@0 1,2=8 | y:3", [3]int{2, 1, 2}, []int{0, 1}, "-1,0,0,0 | -1,0,0,1 | 0,0,0,0 | 1,0,0,0", false}, {"a b | c | r=1<0=2@0 1,2=8 | y:3", [3]int{2, 1, 2}, []int{0, 1}, "| -1,0,0,1 0,0,0,1<0 | 0,0,0,0 | 1,0,0,0", false},
	} {
		wantsNets(t, packRead(n.text), trackChip(n.chip[0], n.chip[1], n.chip[2]), n.tiles, netsRead(n.nets), n.want)
	}
}

// A design, a chip or a placement that is not right: nets that are right of one that is, RouteOK denies, and Route has ErrBad.
func TestRouteNone(t *testing.T) {
	const low, high = -1 << 63, 1<<63 - 1
	right := packRead("a b | c | r=1<0=2@0 1,2=8 | y:3")
	nets := netsRead("-1,0,0,0 | -1,0,0,1 0,0,0,1<0 | 0,0,0,0 | 1,0,0,0")
	c := impl.Chip{Wide: 2, High: 1, Tracks: 2, Pads: 2}
	wantsNets(t, right, c, []int{0, 1}, nets, true)
	wrong := func(p impl.Packed, c impl.Chip, tiles []int) {
		t.Helper()
		wantsNets(t, p, c, tiles, nets, false)
		if got, code := impl.Route(p, c, tiles); code != impl.ErrBad || len(got) != 0 {
			t.Errorf("%s on %v: %v: code %d, %v", packShown(p), c, tiles, code, got)
		}
	}
	for _, text := range []string{"a a | c | r=1<0=2@0 1,2=8 | y:3", "a b | c | r=2<0=2@0 1,2=8 | y:3", "a b | c | r=1<0=2@1 1,2=8 | y:3", "a b | c | r=1<0=2@0 1,3=8 | y:3", "a b | c | r=1<0=2@0 1,2=16 | y:3", "a b | c | r=1<0=2@0 1,2=8 | y:4", "a b | c | r=1<0=2@0 1,2=8 | y:-1", "a b | c | r=1<0=2@0 1,2=8 | y:3 y:3"} {
		wrong(packRead(text), c, []int{0, 1})
	}
	for _, c := range []impl.Chip{{}, {Wide: 2, High: 1, Tracks: 0, Pads: 2}, {Wide: 2, High: 1, Tracks: 9, Pads: 2}, {Wide: 9, High: 1, Tracks: 2, Pads: 2}, {Wide: 2, High: 0, Tracks: 2, Pads: 2}, {Wide: 2, High: 1, Tracks: 2, Pads: 5}, {Wide: 2, High: 1, Tracks: 2, Pads: 1}, {Wide: 1, High: 1, Tracks: 2, Pads: 2}, {Wide: high, High: high, Tracks: high, Pads: high}, {Wide: low, High: 1, Tracks: 2, Pads: 2}, {Wide: 2, High: 1, Tracks: high, Pads: 2}} {
		wrong(right, c, []int{0, 1})
	}
	for _, tiles := range [][]int{nil, {0}, {0, 0}, {0, 1, 2}, {0, 2}, {-1, 1}, {low, high}, firstTiles(4096), firstTiles(4097), firstTiles(65537)} {
		wrong(right, c, tiles)
	}
	// lists that no nets are
	for _, long := range [][][]impl.Hop{make([][]impl.Hop, 4097), make([][]impl.Hop, 65537), {make([]impl.Hop, 65537), nil, nil, nil}, {slices.Repeat(nets[0], 5000), nets[1], nets[2], nets[3]}} {
		if impl.RouteOK(right, c, []int{0, 1}, long) {
			t.Errorf("%d nets", len(long))
		}
	}
}

// wantsRoute holds Route against an answer by hand.
func wantsRoute(t *testing.T, text string, chip [3]int, tiles []int, rounds int, want string) {
	t.Helper()
	p, c := packRead(text), trackChip(chip[0], chip[1], chip[2])
	nets, code, story := holdRoute(t, p, c, tiles)
	wantCode := impl.OK
	if want == "fit" {
		wantCode, want = impl.ErrFit, "none"
	}
	if code != wantCode || netsWritten(nets) != netsWritten(netsRead(want)) || story.rounds != rounds {
		t.Errorf("%s on %v: %v: code %d, round %d\n%s, want\n%s", text, chip, tiles, code, story.rounds, netsWritten(nets), want)
	}
}

// What is routed in the first round.
func TestRouteOnce(t *testing.T) {
	for _, r := range []struct {
		text  string
		chip  [3]int
		tiles []int
		want  string
	}{
		// nothing to do
		{"", [3]int{1, 1, 1}, nil, "none"}, {"a b", [3]int{8, 8, 8}, nil, "|"}, {"| | =0 =0", [3]int{8, 8, 8}, []int{63, 0}, "|"}, {"| c | l=0<0=1@0", [3]int{1, 1, 1}, []int{0}, ""},
		// straight on; of equal wires that of the least number, which is of track 0
		{"a | | 0=2", [3]int{1, 1, 1}, []int{0}, "-1,0,0,0 |"}, {"a | | 0=2", [3]int{8, 1, 8}, []int{0}, "-1,0,0,0 |"}, {"a | | 0=2", [3]int{3, 1, 8}, []int{2}, "-1,0,0,0 0,0,0,0<0 1,0,0,0<1 |"}, {"a | | | y:0", [3]int{1, 1, 1}, nil, "-1,0,0,0 0,0,0,0<0"}, {"| | =0 | y:0", [3]int{1, 1, 2}, []int{0}, "0,0,0,0"}, {"a b | | 1=2", [3]int{1, 8, 2}, []int{3}, "| -1,1,0,0 0,1,1,0<0 0,2,1,0<1 |"},
		{"| | =0 0=2", [3]int{3, 1, 1}, []int{0, 2}, "0,0,0,0 1,0,0,0<0 |"}, {"| | =0 0=2", [3]int{3, 1, 1}, []int{2, 0}, "2,0,2,0 1,0,2,0<0 |"}, {"| | =0 0=2", [3]int{1, 3, 1}, []int{0, 2}, "0,0,1,0 0,1,1,0<0 |"}, {"| | =0 0=2", [3]int{1, 3, 1}, []int{2, 0}, "0,2,3,0 0,1,3,0<0 |"},
		// across 3 by 3, of six ways the one whose last wire has the least number, then the one ahead of it: of y, then of x
		{"| | =0 0=2", [3]int{3, 3, 2}, []int{0, 8}, "0,0,0,0 1,0,0,0<0 2,0,1,0<1 2,1,1,0<2 |"}, {"| | =0 0=2", [3]int{3, 3, 2}, []int{8, 0}, "2,2,3,0 2,1,3,0<0 2,0,2,0<1 1,0,2,0<2 |"}, {"| | =0 0=2", [3]int{3, 3, 2}, []int{2, 6}, "2,0,2,0 1,0,2,0<0 0,0,1,0<1 0,1,1,0<2 |"}, {"| | =0 0=2", [3]int{3, 3, 2}, []int{6, 2}, "0,2,3,0 0,1,3,0<0 0,0,0,0<1 1,0,0,0<2 |"}, {"| | =0 0=0", [3]int{2, 2, 1}, []int{3, 0}, "1,1,3,0 1,0,2,0<0 |"}, {"| | =0 | y:0", [3]int{2, 2, 1}, []int{2}, "0,1,3,0 0,0,0,0<0 1,0,0,0<1"},
		// ends: tiles rising, whatever their blocks, then rows rising
		{"| | =0 0=0 0=0", [3]int{3, 1, 1}, []int{1, 0, 2}, "1,0,2,0 1,0,0,0 | |"}, {"| | =0 0=0 0=0", [3]int{3, 1, 1}, []int{1, 2, 0}, "1,0,2,0 1,0,0,0 | |"}, {"a | | | y:0 z:0", [3]int{1, 2, 1}, nil, "-1,0,0,0 0,0,0,0<0 0,0,1,0<0 0,1,0,0<2"}, {"a b | | | y:1 z:1", [3]int{1, 2, 1}, nil, "| -1,1,0,0 0,1,3,0<0 0,0,0,0<1 0,1,0,0<0"}, {"a | | 0=0 | y:0", [3]int{1, 2, 1}, []int{1}, "-1,0,0,0 0,0,1,0<0 0,0,0,0<0 |"},
		{"| | =0 0=2 | y:0 z:0 | k:0", [3]int{2, 2, 1}, []int{2, 3}, "0,1,0,0 1,1,3,0<0 1,0,0,0<1 1,1,0,0<0 |"},
		// of a tile and a row, and of an out and a check in one row, one wire each
		{"| | =0 | y:0 | k:0", [3]int{1, 1, 1}, []int{0}, "0,0,0,0"}, {"| c | l=0<0=1@0 0=2", [3]int{2, 1, 1}, []int{0, 1}, "0,0,0,0 |"}, {"| c | l=0<1=2@0 m=0<0=2@0", [3]int{2, 1, 1}, []int{0, 1}, "0,0,0,0 | 1,0,2,0"},
		// reached on the way already
		{"| | =0 0=0 0=0", [3]int{3, 1, 1}, []int{2, 1, 0}, "2,0,2,0 1,0,2,0<0 | |"}, {"| | =0 0=0 0=0 0=0", [3]int{4, 1, 1}, []int{3, 1, 0, 2}, "3,0,2,0 2,0,2,0<0 1,0,2,0<1 | | |"},
		// on from the net where that is cheaper than from the source, on the net's track
		{"| | =0 0=0 0=0", [3]int{3, 1, 2}, []int{0, 1, 2}, "0,0,0,0 1,0,0,0<0 | |"}, {"a | | 0=0 0=0 0=0", [3]int{2, 2, 2}, []int{0, 1, 3}, "-1,0,0,0 0,0,0,0<0 1,0,1,0<1 | | |"}, {"a | | 0=0 0=0", [3]int{2, 2, 2}, []int{1, 2}, "-1,0,0,0 0,0,0,0<0 0,0,1,0<0 | |"},
		// another track where the first one is had already, also all the way; track 1 is the lesser one where the wire leaves further down
		{"a b d | | 0,1,2=0", [3]int{1, 1, 3}, []int{0}, "-1,0,0,0 | -1,0,0,1 | -1,0,0,2 |"}, {"a b | | 1,0=0", [3]int{2, 2, 2}, []int{1}, "-1,0,0,0 0,0,0,0<0 | -1,1,0,1 0,1,3,1<0 0,0,0,1<1 |"}, {"a b | | | y:1 z:0", [3]int{1, 1, 2}, nil, "-1,0,0,0 0,0,0,0<0 | -1,0,0,1 0,0,0,1<0"}, {"a b d | | 0,2=0", [3]int{3, 2, 2}, []int{2}, "-1,0,0,0 0,0,0,0<0 1,0,0,0<1 | | -1,0,0,1 0,0,0,1<0 1,0,0,1<1 |"},
		// a way around: 0,0,0,0 is the lesser one ahead of 1,0,0,0, but a has it, so that it costs 2
		{"a b | | | y:1 z:0", [3]int{2, 2, 1}, nil, "-1,0,0,0 0,0,0,0<0 1,0,1,0<1 1,1,0,0<2 | -1,1,0,0 0,1,0,0<0 1,1,3,0<1 1,0,0,0<2"},
		{"| | =0 0=0 1=0 0=0", [3]int{2, 2, 1}, []int{0, 1, 2, 3}, "0,0,0,0 1,0,1,0<0 | 1,0,2,0 0,0,1,0<0 | |"},
		// a register of a, and a table of it and b
		{"a b | c | r=1<0=2@0 1,2=8 | y:3", [3]int{2, 1, 2}, []int{0, 1}, "-1,0,0,0 | -1,0,0,1 0,0,0,1<0 | 0,0,0,0 | 1,0,0,0"},
	} {
		wantsRoute(t, r.text, r.chip, r.tiles, 1, r.want)
	}
}

// What takes more rounds than one.
func TestRouteAgain(t *testing.T) {
	for _, r := range []struct {
		text   string
		chip   [3]int
		tiles  []int
		rounds int
		want   string
	}{
		// of two ways that are as dear the first block takes the one with the second one's only short way; in round 2 that costs 1 more
		{"| | =0 =0 0,1=0", [3]int{2, 2, 1}, []int{0, 1, 3}, 2, "0,0,1,0 0,1,0,0<0 | 1,0,1,0 |"},
		// the block takes 1,0,0,0 from a for 2, as the way around it costs 3; wires that one net has do not become dearer
		{"a | | =0 | y:1 z:0", [3]int{3, 2, 1}, []int{1}, 2, "-1,0,0,0 0,0,0,0<0 1,0,1,0<1 1,1,0,0<2 2,1,0,0<3 | 1,0,0,0 2,0,0,0<0"},
		// the price grows with how many nets have a wire, not with whether one has it
		{"a b | | 1,0=0 1,0,2=0 =0", [3]int{4, 3, 1}, []int{2, 10, 11}, 2, "-1,0,0,0 0,0,0,0<0 1,0,0,0<1 2,0,1,0<2 2,1,1,0<3 | -1,1,0,0 0,1,0,0<0 1,1,0,0<1 2,1,3,0<2 1,1,1,0<1 1,2,0,0<4 | 2,0,0,0 3,0,1,0<0 3,1,1,0<1 3,2,2,0<2 | |"},
		// the round is a factor of that: with 1 in its place a third round would be the last
		{"a b | | =0 | y:1 z:2 w:0", [3]int{3, 3, 1}, []int{3}, 2, "-1,0,0,0 0,0,0,0<0 1,0,0,0<1 2,0,1,0<2 2,1,1,0<3 2,2,0,0<4 | -1,1,0,0 0,1,0,0<0 1,1,0,0<1 2,1,3,0<2 2,0,0,0<3 | 0,1,1,0 0,2,0,0<0 1,2,0,0<1 2,2,3,0<2 2,1,0,0<3"},
		// but none of past
		{"a | | =0 | y:0 z:1 w:0", [3]int{2, 3, 1}, []int{1}, 2, "-1,0,0,0 0,0,0,0<0 1,0,0,0<1 1,0,1,0<1 1,1,1,0<3 1,2,0,0<4 | 1,0,2,0 0,0,1,0<0 0,1,0,0<1 1,1,0,0<2"},
		// of two outs that cross
		{"| | =0 =0 | y:1 z:0", [3]int{3, 2, 1}, []int{1, 0}, 2, "1,0,1,0 1,1,0,0<0 2,1,0,0<1 | 0,0,0,0 1,0,0,0<0 2,0,0,0<1"},
		// three nets in one wire: its past grows by 2
		{"a b | | 1,0=0 0=0 1,2=0 | y:4 z:0", [3]int{3, 3, 1}, []int{1, 8, 2}, 3, "-1,0,0,0 0,0,0,0<0 1,0,1,0<1 1,1,1,0<2 1,2,0,0<3 2,2,3,0<4 2,1,0,0<5 | -1,1,0,0 0,1,0,0<0 1,1,3,0<1 1,0,0,0<2 | 1,0,2,0 0,0,1,0<0 0,1,1,0<1 0,2,0,0<2 1,2,3,0<3 1,1,0,0<4 2,1,3,0<5 | | 2,0,0,0"},
		{"| | =0 0=0 0,1=0 2,0,1=0", [3]int{4, 2, 1}, []int{4, 1, 2, 6}, 4, "0,1,3,0 0,0,0,0<0 1,0,0,0<1 2,0,1,0<2 | 1,0,1,0 1,1,0,0<0 2,1,3,0<1 | 2,0,0,0 3,0,1,0<0 3,1,2,0<1 |"},
		// pasts that add up, and are a factor of the price
		{"a | | =0 0,1=0 | y:1", [3]int{4, 3, 1}, []int{2, 11}, 3, "-1,0,0,0 0,0,0,0<0 1,0,1,0<1 1,1,0,0<2 2,1,0,0<3 3,1,1,0<4 | 2,0,1,0 2,1,1,0<0 2,2,0,0<1 2,0,0,0 3,0,0,0<3 |"},
		{"a | | =0 1,0=0 | y:0", [3]int{2, 2, 1}, []int{0, 2}, 5, "-1,0,0,0 0,0,1,0<0 0,1,0,0<1 1,1,3,0<2 1,0,0,0<3 | 0,0,0,0 1,0,1,0<0 1,1,2,0<1 |"},
		{"| | =0 0=0 0=0 | y:2 z:1", [3]int{2, 2, 1}, []int{3, 0, 2}, 6, "1,1,2,0 0,1,3,0<0 | 0,0,0,0 1,0,1,0<0 1,1,0,0<1 | 0,1,0,0 1,1,3,0<0 1,0,0,0<1"},
		{"a b | | =0 1,0=0 | y:2 z:0", [3]int{2, 3, 1}, []int{0, 4}, 8, "-1,0,0,0 0,0,1,0<0 0,1,1,0<1 0,2,0,0<2 1,2,3,0<3 1,1,0,0<4 | -1,1,0,0 0,1,0,0<0 1,1,1,0<1 1,2,2,0<2 | 0,0,0,0 1,0,0,0<0 |"},
		{"a b | | =0 0=0 3,2,1=0 |", [3]int{4, 2, 1}, []int{2, 3, 1}, 10, "-1,0,0,0 0,0,1,0<0 0,1,0,0<1 1,1,0,0<2 2,1,3,0<3 2,0,0,0<4 | -1,1,0,0 0,1,3,0<0 0,0,0,0<1 | 2,0,2,0 | 3,0,2,0 2,0,1,0<0 2,1,2,0<1 1,1,3,0<2 |"},
		{"a | | 0=0 1,0=0 =0 0,3=0 |", [3]int{3, 2, 1}, []int{2, 3, 1, 5}, 14, "-1,0,0,0 0,0,0,0<0 1,0,0,0<1 2,0,1,0<2 2,1,2,0<3 1,1,2,0<4 | 2,0,2,0 1,0,2,0<0 0,0,1,0<1 | | 1,0,1,0 1,1,0,0<0 |"},
		{"a | | 0=0 0=0 =0 0,3=0 | y:1 z:1", [3]int{2, 3, 1}, []int{2, 4, 0, 3}, 15, "-1,0,0,0 0,0,1,0<0 0,1,0,0<1 1,1,1,0<2 1,2,2,0<3 | 0,1,1,0 0,2,0,0<0 1,2,3,0<1 1,1,3,0<2 1,0,0,0<3 1,1,0,0<2 | | 0,0,0,0 1,0,1,0<0 |"},
		{"| | =0 0=0 1,0=0 2,0=0 0=0 2,3=0 |", [3]int{3, 2, 1}, []int{5, 3, 2, 0, 1, 4}, 20, "2,1,3,0 2,0,2,0<0 1,0,2,0<1 0,0,1,0<2 | 0,1,0,0 1,1,3,0<0 1,0,0,0<1 | 2,0,1,0 2,1,2,0<0 1,1,2,0<1 0,1,3,0<2 | 0,0,0,0 1,0,1,0<0 | |"},
		// the last round
		{"a b | | =0 1,0=0 2,0=0 =0 3=0 6=0 | y:1", [3]int{3, 3, 1}, []int{1, 4, 8, 5, 3, 6}, 24, "-1,0,0,0 0,0,0,0<0 1,0,1,0<1 1,1,1,0<2 1,2,0,0<3 | -1,1,0,0 0,1,0,0<0 1,1,0,0<1 2,1,3,0<2 2,0,0,0<3 | 1,0,0,0 2,0,1,0<0 2,1,1,0<1 | 1,1,2,0 | | | 0,1,1,0 |"},
		{"| | =0 0=0 1=0 =0 1,2=0 3=0 1,5=0 | y:5 z:6", [3]int{4, 2, 1}, []int{3, 4, 6, 0, 5, 7, 2}, 24, "3,0,2,0 2,0,2,0<0 1,0,2,0<1 0,0,1,0<2 | 0,1,0,0 1,1,3,0<0 1,0,0,0<1 2,0,1,0<2 | 2,1,2,0 | 0,0,0,0 1,0,1,0<0 1,1,0,0<1 2,1,0,0<2 | | 3,1,2,0 2,1,3,0<0 3,1,3,0 3,0,0,0<2 | 2,0,0,0 3,0,1,0<0 3,1,0,0<1"},
		// which would come out in a 25th and a 30th round
		{"a b | | 0,1=0 0=0 0=0 0=0 | y:2 z:4", [3]int{2, 3, 1}, []int{5, 3, 2, 4}, 24, "fit"}, {"a | | 0=0 1=0 0=0 1,3,2=0 4=0 | y:1 z:4", [3]int{3, 3, 1}, []int{8, 1, 6, 3, 7}, 24, "fit"},
		// more nets than wires, which no round can help
		{"a b | | 0,1=0", [3]int{1, 1, 1}, []int{0}, 24, "fit"}, {"a b d | | 0,1,2=0", [3]int{1, 1, 2}, []int{0}, 24, "fit"}, {"a b | | | y:0 z:1", [3]int{8, 1, 1}, nil, 24, "fit"}, {"| | =0 =0 | y:0 | k:1", [3]int{2, 1, 1}, []int{0, 1}, 24, "fit"}, {"a b | c | r=1<0=2@0 1,2=8 | y:3", [3]int{2, 1, 1}, []int{0, 1}, 24, "fit"},
	} {
		wantsRoute(t, r.text, r.chip, r.tiles, r.rounds, r.want)
	}
}
