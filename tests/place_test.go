package tests

import (
	"fmt"
	"slices"
	"testing"

	"loop.example/g00031/impl"
)

func TestPlaceConstants(t *testing.T) {
	if impl.MaxMoves != 5000 {
		t.Error(impl.MaxMoves)
	}
}

// chipOf has Wide, High, Tracks and Pads.
func chipOf(of [4]int) impl.Chip {
	return impl.Chip{Wide: of[0], High: of[1], Tracks: of[2], Pads: of[3]}
}

// Each field at its bounds, and one beyond.
func TestChipOK(t *testing.T) {
	const low, high = -1 << 63, 1<<63 - 1
	most := [4]int{8, 8, 8, 4}
	for field := range most {
		for value, want := range map[int]bool{low: false, low + 1: false, -1 << 32: false, -1: false, 0: false, 1: true, 2: true, most[field] - 1: true, most[field]: true, most[field] + 1: false, 64: false, 1<<32 + 1: false, high: false} {
			for _, others := range [][4]int{{1, 1, 1, 1}, {2, 3, 1, 2}, most} {
				others[field] = value
				c := chipOf(others)
				if got := impl.ChipOK(c); got != want || chipTold(c) != want {
					t.Errorf("%v: %v, told %v", c, got, chipTold(c))
				}
				code := impl.OK
				if !want {
					code = impl.ErrBad
				}
				if tiles, got := impl.Place(impl.Packed{}, c, 1, 1); got != code || len(tiles) != 0 {
					t.Errorf("%v: code %d", c, got)
				}
				wantsPlace(t, "nothing", impl.Packed{}, c, nil, want)
			}
		}
	}
	if impl.ChipOK(impl.Chip{}) {
		t.Error("a chip of nothing")
	}
}

// wantsPlace holds PlaceOK against what is told; where it is none there is no cost, and nothing to route.
func wantsPlace(t *testing.T, what string, p impl.Packed, c impl.Chip, tiles []int, want bool) {
	t.Helper()
	if got := impl.PlaceOK(p, c, tiles); got != want || placeTold(p, c, tiles) != want {
		t.Errorf("%s on %v: %v: %v, told %v", what, c, tiles, got, placeTold(p, c, tiles))
	}
	if cost := holdCost(t, p, c, tiles); (cost < 0) == want {
		t.Errorf("%s on %v: %v: cost %d", what, c, tiles, cost)
	}
	if want {
		return
	}
	if nets, code := impl.Route(p, c, tiles); code != impl.ErrBad || len(nets) != 0 || impl.RouteOK(p, c, tiles, make([][]impl.Hop, len(p.Ins)+len(p.Blocks))) {
		t.Errorf("%s on %v: %v: Route: code %d, %v", what, c, tiles, code, nets)
	}
}

func holdCost(t *testing.T, p impl.Packed, c impl.Chip, tiles []int) int {
	t.Helper()
	cost := impl.Cost(p, c, tiles)
	if want := costTold(p, c, tiles); cost != want {
		t.Fatalf("%s on %v: %v: cost %d, want %d", packShown(p), c, tiles, cost, want)
	}
	return cost
}

func TestPlaceOKTiles(t *testing.T) {
	const low, high = -1 << 63, 1<<63 - 1
	for _, c := range []struct {
		blocks int
		chip   [4]int
		tiles  []int
		want   bool
	}{
		{0, [4]int{1, 1, 1, 1}, nil, true}, {0, [4]int{8, 8, 8, 4}, []int{}, true}, {0, [4]int{1, 1, 1, 1}, []int{0}, false},
		{1, [4]int{1, 1, 1, 1}, []int{0}, true}, {1, [4]int{1, 1, 1, 1}, []int{1}, false}, {1, [4]int{1, 1, 1, 1}, []int{-1}, false},
		// too few and too many
		{1, [4]int{2, 2, 1, 1}, nil, false}, {1, [4]int{2, 2, 1, 1}, []int{0, 1}, false}, {3, [4]int{2, 2, 1, 1}, []int{0, 1}, false}, {3, [4]int{2, 2, 1, 1}, []int{0, 1, 2, 3}, false},
		// the last tile, and one behind it, whatever the chip's form
		{2, [4]int{2, 3, 1, 1}, []int{5, 0}, true}, {2, [4]int{2, 3, 1, 1}, []int{0, 5}, true}, {2, [4]int{2, 3, 1, 1}, []int{6, 0}, false}, {2, [4]int{2, 3, 1, 1}, []int{0, 6}, false},
		{1, [4]int{3, 2, 1, 1}, []int{5}, true}, {1, [4]int{3, 2, 1, 1}, []int{6}, false}, {1, [4]int{8, 8, 1, 1}, []int{63}, true}, {1, [4]int{8, 8, 1, 1}, []int{64}, false},
		{1, [4]int{8, 1, 1, 1}, []int{7}, true}, {1, [4]int{8, 1, 1, 1}, []int{8}, false}, {1, [4]int{1, 8, 1, 1}, []int{7}, true}, {1, [4]int{1, 8, 1, 1}, []int{8}, false},
		{2, [4]int{8, 8, 1, 1}, []int{0, -1}, false}, {2, [4]int{8, 8, 1, 1}, []int{low, 0}, false}, {2, [4]int{8, 8, 1, 1}, []int{high, 0}, false}, {2, [4]int{8, 8, 1, 1}, []int{1 << 32, 1}, false},
		// twice
		{2, [4]int{2, 2, 1, 1}, []int{0, 0}, false}, {2, [4]int{2, 2, 1, 1}, []int{3, 3}, false}, {3, [4]int{2, 2, 1, 1}, []int{1, 2, 1}, false}, {3, [4]int{2, 2, 1, 1}, []int{2, 1, 1}, false}, {4, [4]int{2, 2, 1, 1}, []int{3, 1, 0, 2}, true}, {4, [4]int{2, 2, 1, 1}, []int{3, 1, 0, 3}, false},
		// more blocks than tiles
		{5, [4]int{2, 2, 1, 1}, []int{0, 1, 2, 3, 4}, false}, {5, [4]int{2, 2, 1, 1}, []int{0, 1, 2, 3, 0}, false}, {5, [4]int{2, 2, 1, 1}, []int{0, 1, 2, 3}, false},
		{64, [4]int{8, 8, 1, 1}, firstTiles(64), true}, {65, [4]int{8, 8, 1, 1}, firstTiles(65), false}, {63, [4]int{8, 8, 1, 1}, firstTiles(64)[1:], true}, {512, [4]int{8, 8, 1, 1}, firstTiles(512), false}, {512, [4]int{8, 8, 1, 1}, make([]int, 512), false},
		// very many
		{1, [4]int{8, 8, 1, 1}, make([]int, impl.MaxList), false}, {1, [4]int{8, 8, 1, 1}, make([]int, impl.MaxList+1), false}, {0, [4]int{8, 8, 1, 1}, make([]int, 1<<20), false},
	} {
		p := widePack(1, 0, c.blocks, 0, 0, 0)
		wantsPlace(t, fmt.Sprint(c.blocks, " blocks"), p, chipOf(c.chip), c.tiles, c.want)
	}
}

// Pads that are just there, and one too many at the left or the right.
func TestPlaceOKPads(t *testing.T) {
	for _, c := range []struct {
		ins, outs, checks int
		chip              [4]int
		want              bool
	}{
		{1, 0, 0, [4]int{1, 1, 1, 1}, true}, {2, 0, 0, [4]int{1, 1, 1, 1}, false}, {2, 0, 0, [4]int{1, 1, 1, 2}, true}, {2, 0, 0, [4]int{1, 2, 1, 1}, true}, {2, 0, 0, [4]int{8, 1, 8, 1}, false},
		{6, 0, 0, [4]int{1, 2, 1, 3}, true}, {7, 0, 0, [4]int{1, 2, 1, 3}, false}, {6, 0, 0, [4]int{1, 3, 1, 2}, true}, {7, 0, 0, [4]int{1, 3, 1, 2}, false}, {6, 0, 0, [4]int{8, 5, 8, 1}, false}, {5, 0, 0, [4]int{1, 5, 1, 1}, true},
		{32, 0, 0, [4]int{1, 8, 1, 4}, true}, {33, 0, 0, [4]int{8, 8, 8, 4}, false}, {2048, 0, 0, [4]int{8, 8, 8, 4}, false},
		{1, 1, 0, [4]int{1, 1, 1, 1}, true}, {1, 2, 0, [4]int{1, 1, 1, 1}, false}, {1, 0, 1, [4]int{1, 1, 1, 1}, true}, {1, 0, 2, [4]int{1, 1, 1, 1}, false},
		// outs and checks take the same pads
		{1, 1, 1, [4]int{1, 1, 1, 1}, false}, {1, 1, 1, [4]int{1, 1, 1, 2}, true}, {1, 1, 1, [4]int{1, 2, 1, 1}, true}, {1, 2, 1, [4]int{1, 2, 1, 1}, false}, {1, 1, 2, [4]int{1, 2, 1, 1}, false},
		{1, 4, 2, [4]int{1, 3, 1, 2}, true}, {1, 2, 4, [4]int{1, 3, 1, 2}, true}, {1, 3, 4, [4]int{1, 3, 1, 2}, false}, {1, 6, 1, [4]int{1, 3, 1, 2}, false}, {1, 1, 6, [4]int{1, 3, 1, 2}, false}, {1, 7, 0, [4]int{1, 3, 1, 2}, false}, {1, 0, 7, [4]int{1, 3, 1, 2}, false},
		{32, 16, 16, [4]int{1, 8, 1, 4}, true}, {32, 17, 16, [4]int{8, 8, 8, 4}, false}, {32, 16, 17, [4]int{8, 8, 8, 4}, false}, {33, 16, 16, [4]int{8, 8, 8, 4}, false}, {32, 32, 0, [4]int{8, 8, 1, 4}, true}, {32, 0, 32, [4]int{8, 8, 1, 4}, true},
		{1, 2048, 2048, [4]int{8, 8, 8, 4}, false},
		// inputs do not take those at the right, nor outs those at the left
		{2, 2, 0, [4]int{1, 2, 1, 1}, true}, {1, 3, 0, [4]int{1, 2, 1, 1}, false}, {3, 1, 0, [4]int{1, 2, 1, 1}, false},
	} {
		p := widePack(c.ins, 0, 1, c.outs, c.checks, 0)
		wantsPlace(t, fmt.Sprint(c), p, chipOf(c.chip), []int{0}, c.want)
		code := impl.OK
		if !c.want {
			code = impl.ErrFit
		}
		if tiles, got := holdPlace(t, p, chipOf(c.chip), 0, 0); got != code || (len(tiles) == 1) != c.want {
			t.Errorf("%v: code %d, %v", c, got, tiles)
		}
	}
}

func TestPlaceOKNone(t *testing.T) {
	wrong := thePacked()
	wrong.Blocks[3].In[1] = 5
	c, tiles := impl.Chip{Wide: 3, High: 2, Tracks: 1, Pads: 2}, []int{4, 2, 0, 1, 3}
	wantsPlace(t, "right", thePacked(), c, tiles, true)
	wantsPlace(t, "no design", wrong, c, tiles, false)
	for field := range 4 {
		of := [4]int{3, 2, 1, 2}
		of[field] = 0
		wantsPlace(t, "no chip", thePacked(), chipOf(of), tiles, false)
		of[field] = 9
		wantsPlace(t, "no chip", thePacked(), chipOf(of), tiles, false)
	}
}

func TestCost(t *testing.T) {
	whole := [4]int{8, 8, 1, 4}
	for _, c := range []struct {
		text  string
		chip  [4]int
		tiles []int
		want  int
	}{
		// none
		{"a", [4]int{0, 1, 1, 1}, nil, -1}, {"a a", whole, nil, -1}, {"a | | 0=2", whole, nil, -1}, {"a | | 0=2 0=2", whole, []int{1, 1}, -1}, {"a | | 0=2", whole, []int{64}, -1}, {"a b", [4]int{1, 1, 1, 1}, nil, -1},
		// nothing is read
		{"", [4]int{1, 1, 1, 1}, nil, 0}, {"a b d", whole, nil, 0}, {"a b | c | =1 l=0<=1@0", whole, []int{63, 0}, 0},
		// from an input, which stands at -1, to a block
		{"a | | 0=2", whole, []int{0}, 1}, {"a | | 0=2", whole, []int{7}, 8}, {"a | | 0=2", whole, []int{8}, 2}, {"a | | 0=2", whole, []int{56}, 8}, {"a | | 0=2", whole, []int{63}, 15}, {"a | | 0=2", [4]int{3, 8, 1, 1}, []int{11}, 6},
		// the second one stands a row above the first, the third in the row of the first again
		{"a b d | | 1=2", [4]int{4, 2, 1, 2}, []int{3}, 5}, {"a b d | | 1=2", [4]int{4, 2, 1, 2}, []int{7}, 4}, {"a b d | | 2=2", [4]int{4, 2, 1, 2}, []int{3}, 4}, {"a b d | | 2=2", [4]int{4, 2, 1, 2}, []int{7}, 5},
		// from an input to an out or a check, which stand at Wide
		{"a | | | y:0", [4]int{1, 1, 1, 1}, nil, 2}, {"a | | | y:0", whole, nil, 9}, {"a | | | | k:0", whole, nil, 9}, {"a | | | y:0", [4]int{3, 8, 1, 1}, nil, 4}, {"a b | | | y:1", [4]int{3, 2, 1, 1}, nil, 5},
		// a check stands behind the outs; the rows go round
		{"a | | | y:0 | k:0", whole, nil, 10}, {"a | | | y:0 z:0 | k:0", whole, nil, 11}, {"a | | | y:0 z:0 | k:0", [4]int{8, 2, 1, 2}, nil, 10}, {"a | | | y:0 z:0 | k:0 q:0", [4]int{8, 3, 1, 2}, nil, 11},
		{"a b | | | y:0 z:1 | k:0", [4]int{2, 2, 1, 2}, nil, 6}, {"a b | | | y:0 z:1 | k:1", [4]int{2, 2, 1, 2}, nil, 7}, {"a b | | | | k:0 q:1", [4]int{2, 2, 1, 2}, nil, 6}, {"a b | | | | k:1 q:0", [4]int{2, 2, 1, 2}, nil, 8},
		// from a block to an out
		{"| | =1 | y:0", whole, []int{0}, 8}, {"| | =1 | y:0", whole, []int{7}, 1}, {"| | =1 | y:0", whole, []int{63}, 8}, {"| | =1 | y:0 z:0", whole, []int{63}, 8}, {"| | =1 | y:0 z:0", whole, []int{7}, 2},
		// by itself, and others besides
		{"| c | l=0<0=1@0", whole, []int{9}, 0}, {"| c | l=0<0=1@0 | y:0", whole, []int{9}, 8}, {"| c | l=0<0=1@0 0=1", whole, []int{9, 30}, 7},
		// from block to block, either way
		{"| | =1 0=1", whole, []int{9, 30}, 7}, {"| | =1 0=1", whole, []int{30, 9}, 7}, {"| | =1 0=1", whole, []int{14, 49}, 10}, {"| c | l=0<1=2@0 m=0<0=2@0", whole, []int{9, 30}, 14}, {"| | =1 0=1", [4]int{5, 4, 1, 1}, []int{9, 15}, 6},
		// several: the least place that has all in it, not the way to each
		{"| | =1 0=1 0=1", whole, []int{0, 2, 1}, 2}, {"| | =1 0=1 0=1", whole, []int{1, 0, 2}, 2}, {"| | =1 0=1 0=1", whole, []int{0, 2, 16}, 4}, {"| | =1 0=1 0=1 0=1", whole, []int{27, 8, 5, 58}, 12}, {"a | | 0=2 0=1 0=1", whole, []int{0, 9, 18}, 5},
		{"a | | 0=2 | y:0 | k:0", whole, []int{36}, 13}, {"a | | 0=2 | y:1 | k:1", whole, []int{36}, 17},
		// each source by itself, those too that stand at the same place
		{"a b | | 0,1=8", [4]int{2, 2, 1, 1}, []int{0}, 3}, {"a b | | 0,1=8 | y:2", [4]int{2, 2, 1, 1}, []int{1}, 6}, {"a b | | 0,1=8 0,1=6", [4]int{2, 2, 1, 1}, []int{0, 3}, 6}, {"a b | | | y:0 z:0", [4]int{2, 2, 1, 1}, nil, 4},
		// a in 5, b in 2, r in 2, s in 1, then 4, 3 and 3
		{thePack, [4]int{3, 2, 1, 2}, []int{0, 1, 2, 3, 4}, 20},
	} {
		if got := holdCost(t, packRead(c.text), chipOf(c.chip), c.tiles); got != c.want {
			t.Errorf("%s on %v: %v: %d, want %d", c.text, c.chip, c.tiles, got, c.want)
		}
	}
	// tracks and pads that are there make no odds
	for pads := 2; pads <= 4; pads++ {
		if got := impl.Cost(thePacked(), impl.Chip{Wide: 3, High: 2, Tracks: 9 - pads, Pads: pads}, []int{0, 1, 2, 3, 4}); got != 20 {
			t.Errorf("%d pads: %d", pads, got)
		}
	}
}

// holdPlace holds Place against what is told of it.
func holdPlace(t *testing.T, p impl.Packed, c impl.Chip, seed, moves int) ([]int, int) {
	t.Helper()
	tiles, code, _ := holdMoves(t, p, c, seed, moves)
	return tiles, code
}

func holdMoves(t *testing.T, p impl.Packed, c impl.Chip, seed, moves int) ([]int, int, []moveTold) {
	t.Helper()
	tiles, code := impl.Place(p, c, seed, moves)
	want, wantCode, told := placingTold(p, c, seed, moves)
	if code != wantCode || !slices.Equal(tiles, want) {
		t.Fatalf("%s on %v: seed %d, moves %d: code %d, want %d, %v, want %v", packShown(p), c, seed, moves, code, wantCode, tiles, want)
	}
	return tiles, code, told
}

// Of seed 1 the numbers are, ahead of out of how many, 16838, 5758, 10113, 17515, 31051, 5627, 23010, 7419, 16212, 4086, 2749 ..; of two blocks on four tiles they are a block, a tile and r.
func TestPlaceNumbers(t *testing.T) {
	p := packRead("a b | c | r=1<0=2@0 1,2=8 | y:3")
	c := impl.Chip{Wide: 2, High: 2, Tracks: 1, Pads: 1}
	for moves, want := range [][]int{
		{0, 1},
		// 0 to 2: costs 2 more, 113 times that is below 2000
		{2, 1},
		// 1 to 3: costs 1 less
		{2, 3},
		// 0 to 3, and 1 to 2: costs 1 more, 212 is below 2000 / 3
		{3, 2},
		// 0 to 1: costs nothing more
		{1, 2},
		// 0 to 0: costs 2 less
		{0, 2},
		// 1 to 1: nothing more
		{0, 1},
		// 1 to 2: nothing more
		{0, 2},
		// 0 to 3: costs 2 more, 311 times that is not below 2000 / 8
		{0, 2},
	} {
		if got, code := holdPlace(t, p, c, 1, moves); code != impl.OK || !slices.Equal(got, want) {
			t.Errorf("%d moves: code %d, %v, want %v", moves, code, got, want)
		}
	}
}

// What single moves do. One block that reads an input costs 1 and x and y of its tile; seven beside it cost nothing wherever they stand.
func TestPlaceMoves(t *testing.T) {
	const one, row = "a | | 0=2", "a | | 0=2 =0 =0 =0 =0 =0 =0 =0"
	for _, c := range []struct {
		text        string
		seed, moves int
		want        []int
	}{
		// none
		{one, 5, 0, []int{0}}, {row, 5, 0, firstTiles(8)},
		// it stands there
		{one, 14, 1, []int{0}},
		// it stands there, and no third number is drawn: then 48 costs 6 more, r 459, and 12 costs 5 more, r 905
		{one, 51, 3, []int{0}},
		// to an empty tile, r d of 595 and 6916, and of nothing
		{row, 9, 1, []int{19, 1, 2, 3, 4, 5, 6, 7}}, {row, 0, 1, firstTiles(8)}, {row, 1, 1, []int{0, 1, 2, 3, 4, 5, 62, 7}},
		// a swap, r d of 840, 2002 and 4870, and of nothing
		{row, 373, 1, []int{7, 1, 2, 3, 4, 5, 6, 0}}, {row, 66, 1, firstTiles(8)}, {row, 151, 1, firstTiles(8)}, {row, 64, 1, []int{0, 1, 3, 2, 4, 5, 6, 7}},
		// to 37, and from there by a swap that costs 6 less
		{row, 3089, 2, []int{3, 1, 2, 37, 4, 5, 6, 7}},
		// one that costs nothing more draws a third number all the same, and so does one that costs less: to 40, then to 32 for 1 less, then to 25
		{row, 1, 2, []int{0, 1, 2, 11, 4, 5, 62, 7}}, {row, 2, 2, []int{0, 1, 45, 3, 33, 5, 6, 7}}, {one, 17, 3, []int{25}}, {one, 25, 3, []int{8}},
		// what stands in the end, not what cost least: to 62, then to 11
		{one, 1, 3, []int{11}},
		// r d is 2000, of 8 times 250 and 4 times 500, and 1998
		{one, 768, 1, []int{0}}, {one, 1884, 1, []int{0}}, {one, 4888, 1, []int{16}},
		// of the second of two moves, where the bound is 1000, it is 999 and 1000
		{one, 6437, 2, []int{7}}, {one, 1451, 2, []int{0}},
		// of the third of three, where it is 666 and a rest, it is 665 and 666
		{one, 6588, 3, []int{23}}, {one, 1362, 3, []int{0}},
		// of the last of seven, where it is 285 and a rest, it is 284 and 285
		{one, 63, 7, []int{22}}, {one, 1456, 7, []int{33}},
		// the least and the greatest seed
		{row, 0, 4, []int{0, 1, 37, 3, 4, 29, 6, 7}}, {row, 2147483647, 1, []int{0, 57, 2, 3, 4, 5, 6, 7}}, {row, 2147483647, 4, []int{63, 57, 2, 3, 4, 5, 13, 7}},
	} {
		p := packRead(c.text)
		got, code := holdPlace(t, p, impl.Chip{Wide: 8, High: 8, Tracks: 1, Pads: 1}, c.seed, c.moves)
		if code != impl.OK || !slices.Equal(got, c.want) {
			t.Errorf("%s: seed %d, moves %d: code %d, %v, want %v", c.text, c.seed, c.moves, code, got, c.want)
		}
	}
}

// Many moves; of more than 2000 the last ones have the bound 0, at which a move that costs nothing more stands all the same.
func TestPlaceLong(t *testing.T) {
	const two = "a b | c | r=1<0=2@0 1,2=8 | y:3"
	for _, c := range []struct {
		text        string
		wide, high  int
		seed, moves int
		want        []int
	}{
		{two, 3, 2, 1, 2001, []int{0, 1}}, {two, 3, 2, 9, 2001, []int{0, 1}}, {two, 3, 2, 2, 5000, []int{0, 3}}, {two, 3, 2, 4, 5000, []int{0, 1}},
		{thePack, 4, 3, 5, 100, []int{0, 9, 2, 6, 3}}, {thePack, 4, 3, 2147483647, 100, []int{9, 4, 10, 7, 3}},
		{thePack, 8, 8, 0, 1000, []int{1, 12, 20, 15, 30}}, {thePack, 8, 8, 77, 5000, []int{14, 5, 6, 15, 23}},
		{thePack, 5, 1, 3, 5000, []int{0, 1, 2, 3, 4}}, {thePack, 1, 5, 123456789, 5000, []int{0, 4, 3, 1, 2}}, {thePack, 8, 1, 2, 10, []int{0, 1, 2, 5, 6}}, {thePack, 3, 2, 9, 2000, []int{3, 4, 1, 5, 2}},
	} {
		got, code := holdPlace(t, packRead(c.text), impl.Chip{Wide: c.wide, High: c.high, Tracks: 1, Pads: 4}, c.seed, c.moves)
		if code != impl.OK || !slices.Equal(got, c.want) {
			t.Errorf("%s: seed %d, moves %d: code %d, %v, want %v", c.text, c.seed, c.moves, code, got, c.want)
		}
	}
	// tracks and pads to spare make no odds
	a, _ := impl.Place(thePacked(), impl.Chip{Wide: 4, High: 3, Tracks: 1, Pads: 2}, 5, 100)
	b, _ := impl.Place(thePacked(), impl.Chip{Wide: 4, High: 3, Tracks: 8, Pads: 4}, 5, 100)
	if !slices.Equal(a, b) {
		t.Errorf("%v, %v", a, b)
	}
}

// Which code comes first where several are due, and each bound at it and one beyond.
func TestPlaceCodes(t *testing.T) {
	const low, high = -1 << 63, 1<<63 - 1
	bad := thePacked()
	bad.Outs[0].Src = 7
	full, over := widePack(1, 0, 6, 1, 1, 0), widePack(1, 0, 7, 1, 1, 0)
	wide := widePack(5, 0, 1, 1, 1, 0)
	c, none := impl.Chip{Wide: 3, High: 2, Tracks: 1, Pads: 2}, impl.Chip{Wide: 3, High: 2, Tracks: 1}
	for _, d := range []struct {
		p           impl.Packed
		c           impl.Chip
		seed, moves int
		want        int
	}{
		{thePacked(), c, 0, 0, impl.OK}, {thePacked(), c, 2147483647, 5000, impl.OK}, {full, c, 0, 1, impl.OK},
		{bad, c, 1, 1, impl.ErrBad}, {thePacked(), none, 1, 1, impl.ErrBad}, {bad, none, 1, 1, impl.ErrBad},
		{bad, c, -1, 1, impl.ErrBad}, {bad, c, 1, 5001, impl.ErrBad}, {thePacked(), none, -1, 1, impl.ErrBad}, {thePacked(), none, 1, -1, impl.ErrBad}, {over, none, 1, 1, impl.ErrBad}, {wide, none, 1 << 31, 1, impl.ErrBad},
		{thePacked(), c, -1, 1, impl.ErrRange}, {thePacked(), c, 2147483648, 1, impl.ErrRange}, {thePacked(), c, low, 1, impl.ErrRange}, {thePacked(), c, high, 1, impl.ErrRange}, {thePacked(), c, 1 << 32, 1, impl.ErrRange},
		{thePacked(), c, 1, -1, impl.ErrRange}, {thePacked(), c, 1, 5001, impl.ErrRange}, {thePacked(), c, 1, low, impl.ErrRange}, {thePacked(), c, 1, high, impl.ErrRange}, {thePacked(), c, -1, -1, impl.ErrRange},
		{over, c, -1, 1, impl.ErrRange}, {over, c, 1, 5001, impl.ErrRange}, {wide, c, 2147483648, 1, impl.ErrRange}, {wide, c, 1, -1, impl.ErrRange},
		{over, c, 1, 1, impl.ErrFit}, {over, c, 0, 0, impl.ErrFit}, {over, c, 2147483647, 5000, impl.ErrFit}, {wide, c, 1, 1, impl.ErrFit}, {wide, c, 1, 0, impl.ErrFit},
		// without blocks
		{impl.Packed{}, c, 0, 0, impl.OK}, {packRead("a b d e | | | y:0 z:1 | k:2 q:3"), c, 7, 5000, impl.OK}, {packRead("a b d e f"), c, 7, 5000, impl.ErrFit}, {packRead("a | | | y:0 z:0 w:0 | k:0 q:0"), c, 7, 1, impl.ErrFit}, {impl.Packed{}, c, -1, 0, impl.ErrRange}, {impl.Packed{}, c, 0, 5001, impl.ErrRange}, {impl.Packed{}, none, 0, 0, impl.ErrBad},
		// as many blocks as there can be
		{widePack(1, 0, 64, 1, 1, 0), impl.Chip{Wide: 8, High: 8, Tracks: 1, Pads: 1}, 3, 50, impl.OK}, {widePack(1, 0, 65, 1, 1, 0), impl.Chip{Wide: 8, High: 8, Tracks: 1, Pads: 1}, 3, 50, impl.ErrFit}, {widePack(1, 0, 512, 1, 1, 0), impl.Chip{Wide: 8, High: 8, Tracks: 1, Pads: 1}, 3, 50, impl.ErrFit}, {widePack(1, 0, 513, 1, 1, 0), impl.Chip{Wide: 8, High: 8, Tracks: 1, Pads: 1}, 3, 50, impl.ErrBad},
		{widePack(1, 0, 1, 1, 0, 0), impl.Chip{Wide: 1, High: 1, Tracks: 1, Pads: 1}, 3, 5000, impl.OK}, {widePack(1, 0, 2, 1, 0, 0), impl.Chip{Wide: 1, High: 1, Tracks: 1, Pads: 1}, 3, 1, impl.ErrFit},
	} {
		tiles, code := holdPlace(t, d.p, d.c, d.seed, d.moves)
		if code != d.want || code != impl.OK && len(tiles) != 0 || code == impl.OK && len(tiles) != len(d.p.Blocks) {
			t.Errorf("%s on %v: seed %d, moves %d: code %d, %v", packWritten(d.p), d.c, d.seed, d.moves, code, tiles)
		}
	}
}
