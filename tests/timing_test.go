package tests

import (
	"slices"
	"testing"

	"loop.example/g00031/impl"
)

// timingByHand is a design on a chip of so many tiles and tracks, with digitDelays, periods of 1000 and excepts, and what Timing answers.
type timingByHand struct {
	text    string
	chip    [3]int
	tiles   []int
	nets    string
	excepts string
	want    string
}

func (b timingByHand) call() timingCall {
	p := packRead(b.text)
	return timingCall{
		p: p, c: trackChip(b.chip[0], b.chip[1], b.chip[2]), tiles: b.tiles, nets: netsRead(b.nets),
		d: digitDelays, periods: slices.Repeat([]int{1000}, len(p.Clocks)), excepts: exceptsRead(b.excepts),
	}
}

func wantsTimings(t *testing.T, cases []timingByHand) {
	t.Helper()
	for _, b := range cases {
		wantsTiming(t, b.call(), impl.OK, b.want)
	}
}

// Where paths begin and end.
func TestTimingBeginnings(t *testing.T) {
	wantsTimings(t, []timingByHand{
		{"", [3]int{1, 1, 1}, nil, "none", "", "| | 0"}, {"| c d |", [3]int{1, 1, 1}, nil, "none", "", "| | 0"}, {"a b | c |", [3]int{1, 1, 1}, nil, "|", "", "| | 0"},
		// an input that a register reads, and one that nothing does
		{"a | c | r=0<0=2@0", [3]int{1, 1, 1}, []int{0}, "-1,0,0,0 |", "", "0>0:511,511,489 | | 489"}, {"a b | c | r=0<0=2@0", [3]int{1, 1, 1}, []int{0}, "-1,0,0,0 | |", "", "0>0:511,511,489 | | 489"}, {"a b | c | r=0<1=2@0", [3]int{1, 1, 1}, []int{0}, "| -1,0,0,0 |", "", "1>0:511,511,489 | | 489"},
		// one that an out, a check, a table or all of these read: it is not told but to registers
		{"a | c | | y:0", [3]int{1, 1, 1}, nil, "-1,0,0,0 0,0,0,0<0", "", "| | 0"}, {"a | c | | | k:0", [3]int{1, 1, 1}, nil, "-1,0,0,0 0,0,0,0<0", "", "| | 0"}, {"a | c | 0=1 | y:1", [3]int{1, 1, 1}, []int{0}, "-1,0,0,0 | 0,0,0,0", "", "| | 0"}, {"a | | 0=1 | y:1 z:0 | k:1", [3]int{1, 1, 2}, []int{0}, "-1,0,0,0 0,0,0,0<0 | 0,0,0,1", "", "| | 0"}, {"a | c | 0=1 0=1", [3]int{2, 1, 1}, []int{0, 1}, "-1,0,0,0 0,0,0,0<0 | |", "", "| | 0"},
		{"a | c | r=0<0=2@0 | y:0 | k:0", [3]int{1, 1, 1}, []int{0}, "-1,0,0,0 0,0,0,0<0 |", "", "0>0:511,511,489 | | 489"}, {"a | c | r=0<0=2@0 0=1 | y:0 z:2 | k:0", [3]int{2, 1, 2}, []int{0, 1}, "-1,0,0,0 0,0,0,0<0 1,0,0,0<1 | | 1,0,0,1", "", "0>0:511,511,489 | | 489"},
		// no except makes one told
		{"a | c | | y:0", [3]int{1, 1, 1}, nil, "-1,0,0,0 0,0,0,0<0", "0>0*1 -1>-1*1", "| | 0"}, {"a | c | 0=1 | y:1", [3]int{1, 1, 1}, []int{0}, "-1,0,0,0 | 0,0,0,0", "0>1*3", "| | 0"},
		// a register that reads itself: on its own tile, whatever its net has; by a table; both
		{"| c | r=0<0=1@0", [3]int{1, 1, 1}, []int{0}, "", "", "0>0:610,610,390 | | 390"}, {"| c | r=0<0=1@0", [3]int{2, 1, 1}, []int{0}, "0,0,0,0 1,0,2,0<0", "", "0>0:610,610,390 | | 390"}, {"| c | r=0<1=2@0 0=1", [3]int{2, 1, 1}, []int{0, 1}, "0,0,0,0 | 1,0,2,0", "", "0>0:622,622,378 | | 378"}, {"| c | r=0<0,1=6@0 0=1", [3]int{2, 1, 1}, []int{0, 1}, "0,0,0,0 | 1,0,2,0", "", "0>0:622,610,378 | | 378"},
		{"a | c | r=0<0,1=6@0", [3]int{1, 1, 1}, []int{0}, "-1,0,0,0 |", "", "0>0:511,511,489 1>0:610,610,390 | | 390"},
		// a register without inputs, and one that nothing reads
		{"| c | r=0<=1@0 | y:0", [3]int{1, 1, 1}, []int{0}, "0,0,0,0", "", "0>1:301,301,699 | | 699"}, {"| c | r=0<=1@0", [3]int{1, 1, 1}, []int{0}, "", "", "| | 0"}, {"| c | r=0<=1@0 0=1", [3]int{2, 1, 1}, []int{0, 1}, "0,0,0,0 |", "", "| | 0"},
		// nothing begins at a table, not at one without inputs either
		{"| c | =1 r=0<0=2@0 | y:0", [3]int{2, 1, 1}, []int{0, 1}, "0,0,0,0 1,0,0,0<0 |", "", "| | 0"}, {"a | c | 0=1 r=0<1=2@0", [3]int{2, 1, 1}, []int{0, 1}, "-1,0,0,0 | 0,0,0,0 |", "", "0>1:522,522,478 | | 478"},
		// nothing goes through a register
		{"a | c | r=0<0=2@0 s=0<1=2@0 | y:2", [3]int{2, 1, 1}, []int{0, 1}, "-1,0,0,0 | 0,0,0,0 | 1,0,0,0", "", "0>0:511,511,489 1>1:611,611,389 2>2:301,301,699 | | 389"},
		{"a | c | r=0<0=2@0 1=1 s=0<2=2@0", [3]int{3, 1, 1}, []int{0, 1, 2}, "-1,0,0,0 | 0,0,0,0 | 1,0,0,0 |", "", "0>0:511,511,489 1>2:622,622,378 | | 378"},
	})
}

// What goings take: wires from the source to the first one in the list that ends there.
func TestTimingGoings(t *testing.T) {
	wantsTimings(t, []timingByHand{
		// over several wires, also round about
		{"a | c | r=0<0=2@0", [3]int{3, 1, 1}, []int{2}, "-1,0,0,0 0,0,0,0<0 1,0,0,0<1 |", "", "0>0:513,513,487 | | 487"}, {"a | c | r=0<0=2@0", [3]int{2, 2, 1}, []int{1}, "-1,0,0,0 0,0,0,0<0 |", "", "0>0:512,512,488 | | 488"}, {"a | c | r=0<0=2@0", [3]int{2, 2, 1}, []int{1}, "-1,0,0,0 0,0,1,0<0 0,1,0,0<1 1,1,3,0<2 |", "", "0>0:514,514,486 | | 486"},
		{"a | c | r=0<0=2@0", [3]int{8, 1, 1}, []int{7}, "-1,0,0,0 0,0,0,0<0 1,0,0,0<1 2,0,0,0<2 3,0,0,0<3 4,0,0,0<4 5,0,0,0<5 6,0,0,0<6 |", "", "0>0:518,518,482 | | 482"},
		// the first that ends there, be there a shorter or a longer way behind it
		{"a | c | r=0<0=2@0", [3]int{2, 2, 1}, []int{1}, "-1,0,0,0 0,0,1,0<0 0,1,0,0<1 1,1,3,0<2 0,0,0,0<0 |", "", "0>0:514,514,486 | | 486"}, {"a | c | r=0<0=2@0", [3]int{2, 2, 1}, []int{1}, "-1,0,0,0 0,0,0,0<0 0,0,1,0<0 0,1,0,0<2 1,1,3,0<3 |", "", "0>0:512,512,488 | | 488"},
		{"a | c | r=0<0=2@0", [3]int{2, 2, 2}, []int{1}, "-1,0,0,1 0,0,1,1<0 0,1,0,1<1 1,1,3,1<2 -1,0,0,0 0,0,0,0<4 |", "", "0>0:514,514,486 | | 486"}, {"a | c | r=0<0=2@0", [3]int{2, 2, 2}, []int{1}, "-1,0,0,1 -1,0,0,0 0,0,0,0<1 0,0,1,1<0 0,1,0,1<3 1,1,3,1<4 |", "", "0>0:512,512,488 | | 488"},
		{"| c | r=0<=1@0 | y:0", [3]int{2, 2, 2}, []int{0}, "0,0,1,1 0,1,0,1<0 1,1,3,1<1 1,0,0,1<2 0,0,0,0 1,0,0,0<4", "", "0>1:304,304,696 | | 696"}, {"| c | r=0<=1@0 | y:0", [3]int{2, 2, 2}, []int{0}, "0,0,0,0 1,0,0,0<0 0,0,1,1 0,1,0,1<2 1,1,3,1<3 1,0,0,1<4", "", "0>1:302,302,698 | | 698"},
		// not how far behind it stands in the list
		{"a | c | r=0<0=2@0", [3]int{2, 2, 1}, []int{3}, "-1,0,0,0 0,0,0,0<0 0,0,1,0<0 0,1,0,0<2 |", "", "0>0:513,513,487 | | 487"}, {"a | c | r=0<0=2@0", [3]int{2, 1, 4}, []int{0}, "-1,0,0,3 0,0,0,3<0 1,0,2,3<1 |", "", "0>0:511,511,489 | | 489"},
		{"| c | r=0<=1@0 s=0<0=2@0", [3]int{3, 1, 2}, []int{1, 0}, "1,0,0,0 2,0,0,0<0 1,0,0,1 2,0,0,1<2 1,0,2,0 |", "", "0>1:611,611,389 | | 389"},
		// which of two it goes on from
		{"| c | r=0<=1@0 s=0<0=2@0", [3]int{3, 2, 1}, []int{0, 2}, "0,0,0,0 0,0,1,0 0,1,0,0<1 1,1,3,0<2 1,0,0,0<3 |", "", "0>1:614,614,386 | | 386"}, {"| c | r=0<=1@0 s=0<0=2@0", [3]int{3, 2, 1}, []int{0, 2}, "0,0,0,0 0,0,1,0 0,1,0,0<1 1,1,3,0<2 1,0,0,0<0 |", "", "0>1:612,612,388 | | 388"},
		// over its own tile again
		{"| c | r=0<=1@0 s=0<0=2@0", [3]int{2, 2, 1}, []int{0, 2}, "0,0,0,0 1,0,2,0<0 0,0,1,0<1 |", "", "0>1:613,613,387 | | 387"}, {"| c | r=0<=1@0 s=0<0=2@0", [3]int{2, 2, 1}, []int{0, 2}, "0,0,0,0 1,0,2,0<0 0,0,1,0 |", "", "0>1:611,611,389 | | 389"},
		// branches: three tiles, one of them by the others or not
		{"a | c | r=0<0=2@0 s=0<0=2@0 q=0<0=2@0", [3]int{2, 2, 1}, []int{0, 1, 2}, "-1,0,0,0 0,0,0,0<0 0,0,1,0<0 | | |", "", "0>0:511,511,489 0>1:512,512,488 0>2:512,512,488 | | 488"}, {"a | c | r=0<0=2@0 s=0<0=2@0 q=0<0=2@0", [3]int{2, 2, 1}, []int{0, 1, 2}, "-1,0,0,0 0,0,0,0<0 1,0,1,0<1 1,1,2,0<2 | | |", "", "0>0:511,511,489 0>1:512,512,488 0>2:514,514,486 | | 486"},
		// a tile, and two rows of outs and checks
		{"| c | r=0<1=2@0 0=1 | y:0 z:0 | k:0", [3]int{2, 2, 2}, []int{0, 1}, "0,0,0,0 1,0,0,0<0 0,0,1,1 0,1,0,1<2 1,1,0,1<3 | 1,0,2,0", "", "0>0:622,622,378 0>2:302,302,698 0>3:303,303,697 0>4:302,302,698 | | 378"},
		// the last tile of a row is not its out: on its own tile, over one wire
		{"| c | r=0<0=2@0 | y:0", [3]int{2, 1, 1}, []int{1}, "1,0,0,0", "", "0>0:610,610,390 0>1:301,301,699 | | 390"}, {"| c | r=0<=1@0 s=0<0=2@0 | y:0", [3]int{2, 1, 1}, []int{0, 1}, "0,0,0,0 1,0,0,0<0 |", "", "0>1:611,611,389 0>2:302,302,698 | | 389"},
	})
}

// What blocks, beginnings and ends take, and paths of several ways.
func TestTimingWays(t *testing.T) {
	wantsTimings(t, []timingByHand{
		// tables gone through
		{"a | c | 0=1 1=1 2=1 r=0<3=2@0", [3]int{4, 1, 1}, []int{0, 1, 2, 3}, "-1,0,0,0 | 0,0,0,0 | 1,0,0,0 | 2,0,0,0 |", "", "0>3:544,544,456 | | 456"}, {"| c | r=0<=1@0 0=1 | y:1", [3]int{2, 1, 1}, []int{0, 1}, "0,0,0,0 | 1,0,0,0", "", "0>2:312,312,688 | | 688"}, {"| c | r=0<=1@0 0=1 | | k:1", [3]int{2, 1, 1}, []int{0, 1}, "0,0,0,0 | 1,0,0,0", "", "0>2:312,312,688 | | 688"}, {"| c | r=0<=1@0 0=1 1=1 | y:1 | k:2", [3]int{3, 1, 2}, []int{0, 1, 2}, "0,0,0,0 | 1,0,0,0 2,0,0,0<0 | 2,0,0,1", "", "0>3:313,313,687 0>4:323,323,677 | | 677"},
		// by a table or not: the longest and the shortest way, told once
		{"a | c | 0=1 1=1 0,2=8 r=0<3=2@0", [3]int{4, 1, 2}, []int{0, 1, 2, 3}, "-1,0,0,0 0,0,0,0<0 1,0,0,0<1 | 0,0,0,1 | 1,0,0,1 | 2,0,0,0 |", "", "0>3:544,524,456 | | 456"},
		{"a | c | 0=1 0,1=6 r=0<0,1,2=8@0", [3]int{3, 1, 3}, []int{0, 1, 2}, "-1,0,0,0 0,0,0,0<0 1,0,0,0<1 | 0,0,0,1 1,0,0,1<0 | 1,0,0,2 |", "", "0>2:533,513,467 | | 467"},
		// two inputs that come to one register, and one that comes to two
		{"a b | c | 0,1=8 r=0<1,2=6@0", [3]int{2, 1, 2}, []int{0, 1}, "-1,0,0,0 | -1,0,0,1 0,0,0,1<0 | 0,0,0,0 |", "", "0>1:522,522,478 1>1:522,512,478 | | 478"}, {"a | c | 0=1 r=0<0=2@0 s=0<1=2@0", [3]int{3, 1, 2}, []int{0, 1, 2}, "-1,0,0,0 0,0,0,0<0 | 0,0,0,1 1,0,0,1<0 | |", "", "0>1:512,512,488 0>2:523,523,477 | | 477"},
		// by rising From, then To; blocks of both kinds among each other
		{"a b | c | 1=1 r=0<1,2=6@0 3=1 s=0<0,3,4=9@0 | y:5 z:3 | k:5", [3]int{4, 1, 3}, []int{0, 1, 2, 3}, "-1,0,0,0 0,0,0,0<0 1,0,0,0<1 2,0,0,0<2 | -1,0,0,1 0,0,0,1<0 | 0,0,0,2 | 1,0,0,1 2,0,0,1<0 3,0,0,1<1 | 2,0,0,2 | 3,0,0,0", "", "0>3:514,514,486 1>1:522,512,478 3>3:622,612,378 3>5:303,303,697 5>4:301,301,699 5>6:301,301,699 | | 378"},
		// a register that a table ahead of it reads
		{"| c | 1=1 r=0<0=2@0", [3]int{2, 1, 1}, []int{0, 1}, "0,0,0,0 | 1,0,2,0", "", "1>1:622,622,378 | | 378"},
		// registers of one clock
		{"| c | r=0<1=2@0 s=0<0=2@0", [3]int{2, 1, 1}, []int{0, 1}, "0,0,0,0 | 1,0,2,0", "", "0>1:611,611,389 1>0:611,611,389 | | 389"},
	})
}

// Each delay by itself, in the design of several kinds of paths: a to r, b to s, r to s, r to y, s to k.
func TestTimingDelays(t *testing.T) {
	for _, of := range []struct {
		d    impl.Delays
		want string
	}{
		{impl.Delays{}, "0>0:0,0,1000 1>1:0,0,2000 2>3:0,0,1000 3>4:0,0,2000 | 2>1:0,0,0 | 1000"},
		{impl.Delays{Lut: 1}, "0>0:1,1,999 1>1:2,2,1998 2>3:1,1,999 3>4:0,0,2000 | 2>1:2,1,0 | 999"},
		{impl.Delays{Wire: 1}, "0>0:1,1,999 1>1:4,4,1996 2>3:3,3,997 3>4:2,2,1998 | 2>1:3,1,0 | 997"},
		{impl.Delays{Pad: 1}, "0>0:1,1,999 1>1:1,1,1999 2>3:1,1,999 3>4:1,1,1999 | 2>1:0,0,0 | 999"},
		{impl.Delays{Out: 1}, "0>0:0,0,1000 1>1:0,0,2000 2>3:1,1,999 3>4:1,1,1999 | 2>1:1,1,0 | 999"},
		{impl.Delays{Setup: 1}, "0>0:1,1,999 1>1:1,1,1999 2>3:0,0,1000 3>4:0,0,2000 | 2>1:1,1,0 | 999"},
		{impl.Delays{Lut: 1000}, "0>0:1000,1000,0 1>1:2000,2000,0 2>3:1000,1000,0 3>4:0,0,2000 | 2>1:2000,1000,0 | 0"},
		{impl.Delays{Wire: 1000}, "0>0:1000,1000,0 1>1:4000,4000,-2000 2>3:3000,3000,-2000 3>4:2000,2000,0 | 2>1:3000,1000,0 | -2000"},
		{impl.Delays{Lut: 1000, Wire: 1000, Pad: 1000, Out: 1000, Setup: 1000}, "0>0:4000,4000,-3000 1>1:8000,8000,-6000 2>3:6000,6000,-5000 3>4:4000,4000,-2000 | 2>1:7000,4000,0 | -6000"},
		{impl.Delays{Lut: 5, Wire: 2, Pad: 1, Out: 3, Setup: 4}, "0>0:12,12,988 1>1:23,23,1977 2>3:15,15,985 3>4:8,8,1992 | 2>1:23,14,0 | 985"},
	} {
		wantsTiming(t, theTiming().with(func(a *timingCall) { a.d = of.d }), impl.OK, of.want)
	}
	// the way of fewer tables is the longer one, by its wires
	byWires := timingByHand{"a | c | 0=1 1=1 0,2=8 r=0<3=2@0", [3]int{4, 2, 2}, []int{0, 1, 2, 3}, "-1,0,0,0 0,0,1,0<0 0,1,0,0<1 1,1,0,0<2 2,1,3,0<3 | 0,0,0,1 | 1,0,0,1 | 2,0,0,0 |", "", "0>3:544,526,456 | | 456"}.call()
	wantsTiming(t, byWires, impl.OK, "0>3:544,526,456 | | 456")
	byWires.d = impl.Delays{Lut: 1, Wire: 10}
	wantsTiming(t, byWires, impl.OK, "0>3:62,44,938 | | 938")
	byWires.d = impl.Delays{Lut: 1, Wire: 1}
	wantsTiming(t, byWires, impl.OK, "0>3:8,8,992 | | 992")
}

// Whose clock's period counts, and what Worst is.
func TestTimingPeriods(t *testing.T) {
	for _, of := range []struct {
		c, d int
		want string
	}{
		{1000, 1000, "0>0:511,511,489 1>1:524,524,476 2>3:313,313,687 3>4:302,302,698 | 2>1:623,611,0 | 476"},
		{1, 1, "0>0:511,511,-510 1>1:524,524,-523 2>3:313,313,-312 3>4:302,302,-301 | 2>1:623,611,0 | -523"},
		{1000000, 1000000, "0>0:511,511,999489 1>1:524,524,999476 2>3:313,313,999687 3>4:302,302,999698 | 2>1:623,611,0 | 999476"},
		{1000000, 1, "0>0:511,511,999489 1>1:524,524,-523 2>3:313,313,999687 3>4:302,302,-301 | 2>1:623,611,0 | -523"},
		{1, 1000000, "0>0:511,511,-510 1>1:524,524,999476 2>3:313,313,-312 3>4:302,302,999698 | 2>1:623,611,0 | -510"},
		// just in time, and one too late
		{511, 524, "0>0:511,511,0 1>1:524,524,0 2>3:313,313,198 3>4:302,302,222 | 2>1:623,611,0 | 0"}, {512, 523, "0>0:511,511,1 1>1:524,524,-1 2>3:313,313,199 3>4:302,302,221 | 2>1:623,611,0 | -1"}, {510, 600, "0>0:511,511,-1 1>1:524,524,76 2>3:313,313,197 3>4:302,302,298 | 2>1:623,611,0 | -1"}, {512, 600, "0>0:511,511,1 1>1:524,524,76 2>3:313,313,199 3>4:302,302,298 | 2>1:623,611,0 | 1"},
	} {
		wantsTiming(t, theTiming().with(func(a *timingCall) { a.periods = []int{of.c, of.d} }), impl.OK, of.want)
	}
	// the least one is the last, and one of those in the middle
	wantsTiming(t, theTiming().with(func(a *timingCall) {
		a.d = impl.Delays{Out: 100, Pad: 1}
		a.periods = []int{1000, 150}
	}), impl.OK, "0>0:1,1,999 1>1:1,1,149 2>3:101,101,899 3>4:101,101,49 | 2>1:100,100,0 | 49")
	wantsTiming(t, theTiming().with(func(a *timingCall) {
		a.d = impl.Delays{Out: 100, Wire: 100}
		a.periods = []int{500, 5000}
	}), impl.OK, "0>0:100,100,400 1>1:400,400,4600 2>3:400,400,100 3>4:300,300,4700 | 2>1:400,200,0 | 100")
	// a register of each clock
	wantsTiming(t, timingByHand{text: "a | c d | r=0<0=2@0 s=0<0=2@1", chip: [3]int{2, 1, 1}, tiles: []int{0, 1}, nets: "-1,0,0,0 0,0,0,0<0 | |"}.call().with(func(a *timingCall) { a.periods = []int{1000, 700} }), impl.OK, "0>0:511,511,489 0>1:512,512,188 | | 188")
	// both of the second clock, of eight
	eight := timingByHand{text: "| c d e f g h i j | r=0<1=2@7 s=0<0=2@7", chip: [3]int{2, 1, 1}, tiles: []int{0, 1}, nets: "0,0,0,0 | 1,0,2,0"}.call()
	eight.periods = []int{1, 2, 3, 4, 5, 6, 7, 888}
	wantsTiming(t, eight, impl.OK, "0>1:611,611,277 1>0:611,611,277 | | 277")
}

// Paths between two clocks.
func TestTimingCross(t *testing.T) {
	two := timingByHand{text: "| c d | r=0<1=2@0 s=0<0=2@1", chip: [3]int{2, 1, 1}, tiles: []int{0, 1}, nets: "0,0,0,0 | 1,0,2,0"}
	for excepts, want := range map[string]string{
		"": "| 0>1:611,611,0 1>0:611,611,0 | 0", "1>0*1": "1>0:611,611,389 | 0>1:611,611,0 | 389", "0>1*1": "0>1:611,611,1389 | 1>0:611,611,0 | 1389", "0>1*0": "| 1>0:611,611,0 | 0", "-1>-1*0": "| | 0",
		"-1>-1*1": "0>1:611,611,1389 1>0:611,611,389 | | 389", "-1>-1*2": "0>1:611,611,3389 1>0:611,611,1389 | | 1389", "-1>0*1 0>-1*0": "1>0:611,611,389 | | 389", "0>0*1": "| 0>1:611,611,0 1>0:611,611,0 | 0", "1>1*0": "| 0>1:611,611,0 1>0:611,611,0 | 0",
	} {
		a := two.call()
		a.periods, a.excepts = []int{1000, 2000}, exceptsRead(excepts)
		wantsTiming(t, a, impl.OK, want)
	}
	// the clock's number counts, not its period; one that is crossed beside one that is not
	wantsTiming(t, two.call(), impl.OK, "| 0>1:611,611,0 1>0:611,611,0 | 0")
	three := timingByHand{text: "| c d | r=0<=1@1 s=0<0=2@0 q=0<0=2@1", chip: [3]int{3, 1, 1}, tiles: []int{0, 1, 2}, nets: "0,0,0,0 1,0,0,0<0 | |"}
	wantsTiming(t, three.call(), impl.OK, "0>2:612,612,388 | 0>1:611,611,0 | 388")
	wantsTiming(t, three.call().with(func(a *timingCall) { a.periods = []int{1000, 600} }), impl.OK, "0>2:612,612,-12 | 0>1:611,611,0 | -12")
	// an input or an out beside registers of two clocks
	wantsTiming(t, timingByHand{text: "a | c d | r=0<0=2@0 s=0<0,1=6@1 | y:1 z:2", chip: [3]int{2, 1, 2}, tiles: []int{0, 1}, nets: "-1,0,0,0 0,0,0,0<0 | 0,0,0,1 1,0,0,1<0 | 1,0,0,0"}.call().with(func(a *timingCall) { a.periods = []int{700, 800} }),
		impl.OK, "0>0:511,511,189 0>1:512,512,288 1>2:302,302,398 2>3:301,301,499 | 1>1:611,611,0 | 189")
}

func TestTimingExcepts(t *testing.T) {
	const (
		a, b, y, k = "0>0:511,511,489", "1>1:524,524,1476", "2>3:313,313,687", "3>4:302,302,1698"
		s          = "2>1:623,611,0"
	)
	for excepts, want := range map[string]string{
		// none that fits: a path that there is not, one that is not told
		"": theReport, "0>4*3": theReport, "0>1*5": theReport, "1>0*0": theReport, "3>3*0": theReport, "3>1*0 2>0*0 2>4*0 0>3*0 1>4*0": theReport, "1>3*0": theReport, "1>3*7": theReport,
		// once the period is what there is without one
		"0>0*1": theReport, "-1>0*1": theReport, "0>-1*1": theReport, "-1>3*1 3>-1*1": theReport,
		"0>0*0": b + " " + y + " " + k + " | " + s + " | 687", "0>0*2": "0>0:511,511,1489 " + b + " " + y + " " + k + " | " + s + " | 687", "0>0*100": "0>0:511,511,99489 " + b + " " + y + " " + k + " | " + s + " | 687",
		"1>1*0": a + " " + y + " " + k + " | " + s + " | 489", "1>1*2": a + " 1>1:524,524,3476 " + y + " " + k + " | " + s + " | 489", "2>3*0": a + " " + b + " " + k + " | " + s + " | 489", "2>3*2": a + " " + b + " 2>3:313,313,1687 " + k + " | " + s + " | 489", "3>4*0": a + " " + b + " " + y + " | " + s + " | 489", "3>4*2": a + " " + b + " " + y + " 3>4:302,302,3698 | " + s + " | 489",
		// between two clocks: To's period, in Paths
		"2>1*0": a + " " + b + " " + y + " " + k + " | | 489", "2>1*1": a + " " + b + " 2>1:623,611,1377 " + y + " " + k + " | | 489", "2>1*3": a + " " + b + " 2>1:623,611,5377 " + y + " " + k + " | | 489", "2>1*100": a + " " + b + " 2>1:623,611,199377 " + y + " " + k + " | | 489",
		// any beginning, any end, both
		"-1>1*2": a + " 1>1:524,524,3476 2>1:623,611,3377 " + y + " " + k + " | | 489", "-1>0*0": b + " " + y + " " + k + " | " + s + " | 687", "-1>3*2": a + " " + b + " 2>3:313,313,1687 " + k + " | " + s + " | 489", "-1>4*0": a + " " + b + " " + y + " | " + s + " | 489",
		"2>-1*2": a + " " + b + " 2>1:623,611,3377 2>3:313,313,1687 " + k + " | | 489", "2>-1*0": a + " " + b + " " + k + " | | 489", "0>-1*0": b + " " + y + " " + k + " | " + s + " | 687", "1>-1*3": a + " 1>1:524,524,5476 " + y + " " + k + " | " + s + " | 489", "3>-1*2": a + " " + b + " " + y + " 3>4:302,302,3698 | " + s + " | 489",
		"-1>-1*0": "| | 0", "-1>-1*1": a + " " + b + " 2>1:623,611,1377 " + y + " " + k + " | | 489", "-1>-1*2": "0>0:511,511,1489 1>1:524,524,3476 2>1:623,611,3377 2>3:313,313,1687 3>4:302,302,3698 | | 1489",
		// several that fit: the last one
		"0>0*0 0>0*2": "0>0:511,511,1489 " + b + " " + y + " " + k + " | " + s + " | 687", "0>0*2 0>0*0": b + " " + y + " " + k + " | " + s + " | 687", "0>0*2 0>0*0 0>0*1": theReport, "0>0*2 0>4*0": "0>0:511,511,1489 " + b + " " + y + " " + k + " | " + s + " | 687",
		"-1>-1*0 2>1*1": "2>1:623,611,1377 | | 1377", "2>1*1 -1>-1*0": "| | 0", "-1>-1*0 -1>1*2": "1>1:524,524,3476 2>1:623,611,3377 | | 3377", "-1>-1*0 2>-1*1 2>1*0": y + " | | 687", "2>1*0 2>-1*1 -1>-1*0": "| | 0", "2>1*0 -1>1*1": a + " " + b + " 2>1:623,611,1377 " + y + " " + k + " | | 489", "2>1*2 0>0*0 2>1*1 3>4*0": b + " 2>1:623,611,1377 " + y + " | | 687",
		// one that fits both Paths and none else
		"-1>-1*0 0>-1*1 -1>1*1": a + " " + b + " 2>1:623,611,1377 | | 489",
	} {
		wantsTiming(t, theTiming().with(func(a *timingCall) { a.excepts = exceptsRead(excepts) }), impl.OK, want)
	}
}

// Which excepts there can be, by each of their numbers.
func TestTimingExceptCodes(t *testing.T) {
	const low, high = -1 << 63, 1<<63 - 1
	try := func(e impl.Except, fits bool) {
		t.Helper()
		for _, excepts := range [][]impl.Except{{e}, {{From: -1, To: -1, Cycles: 1}, e}, {e, {From: 0, To: 0, Cycles: 1}}} {
			a := theTiming()
			a.excepts = excepts
			_, code := a.answer()
			if (code == impl.OK) != fits || code != impl.OK && code != impl.ErrBad {
				t.Errorf("%s: code %d", exceptsWritten(excepts), code)
			}
			holdTiming(t, a, code)
		}
	}
	// inputs 0 and 1, registers 2 and 3, a table 4
	for from, fits := range map[int]bool{low: false, low + 1: false, low + 2: false, low + 4: false, -3: false, -2: false, -1: true, 0: true, 1: true, 2: true, 3: true, 4: false, 5: false, 6: false, 1<<32 + 2: false, high - 1: false, high: false} {
		try(impl.Except{From: from, To: -1, Cycles: 1}, fits)
		try(impl.Except{From: from, To: 0, Cycles: 0}, fits)
		try(impl.Except{From: from, To: 4, Cycles: 100}, fits)
	}
	// registers 0 and 1, a table 2, an out 3, a check 4
	for to, fits := range map[int]bool{low: false, -3: false, -2: false, -1: true, 0: true, 1: true, 2: false, 3: true, 4: true, 5: false, 6: false, 1<<32 + 3: false, high: false} {
		try(impl.Except{From: -1, To: to, Cycles: 1}, fits)
		try(impl.Except{From: 0, To: to, Cycles: 0}, fits)
		try(impl.Except{From: 3, To: to, Cycles: 100}, fits)
	}
	for cycles, fits := range map[int]bool{low: false, -100: false, -1: false, 0: true, 1: true, 2: true, 99: true, 100: true, 101: false, 1 << 32: false, high: false} {
		try(impl.Except{From: -1, To: -1, Cycles: cycles}, fits)
		try(impl.Except{From: 0, To: 0, Cycles: cycles}, fits)
		try(impl.Except{From: 1, To: 4, Cycles: cycles}, fits)
	}
	try(impl.Except{From: 4, To: 2, Cycles: 101}, false)
	// of a design of nothing, of one of an input and an out, of two outs and two checks
	for _, of := range []struct {
		by      timingByHand
		excepts string
		code    int
	}{
		{timingByHand{text: "", chip: [3]int{1, 1, 1}, nets: "none"}, "-1>-1*5", impl.OK}, {timingByHand{text: "", chip: [3]int{1, 1, 1}, nets: "none"}, "0>-1*5", impl.ErrBad}, {timingByHand{text: "", chip: [3]int{1, 1, 1}, nets: "none"}, "-1>0*5", impl.ErrBad},
		{timingByHand{text: "a | | | y:0", chip: [3]int{1, 1, 1}, nets: "-1,0,0,0 0,0,0,0<0"}, "0>0*0", impl.OK}, {timingByHand{text: "a | | | y:0", chip: [3]int{1, 1, 1}, nets: "-1,0,0,0 0,0,0,0<0"}, "1>0*0", impl.ErrBad}, {timingByHand{text: "a | | | y:0", chip: [3]int{1, 1, 1}, nets: "-1,0,0,0 0,0,0,0<0"}, "0>1*0", impl.ErrBad},
		{timingByHand{text: "a | | | y:0 z:0 | k:0 l:0", chip: [3]int{1, 1, 1}, nets: "-1,0,0,0 0,0,0,0<0"}, "0>0*0 0>1*1 0>2*2 0>3*3", impl.OK}, {timingByHand{text: "a | | | y:0 z:0 | k:0 l:0", chip: [3]int{1, 1, 1}, nets: "-1,0,0,0 0,0,0,0<0"}, "0>4*0", impl.ErrBad},
		{timingByHand{text: "| c | r=0<=1@0", chip: [3]int{1, 1, 1}, tiles: []int{0}, nets: ""}, "0>0*0", impl.OK}, {timingByHand{text: "| | =1", chip: [3]int{1, 1, 1}, tiles: []int{0}, nets: ""}, "0>-1*0", impl.ErrBad}, {timingByHand{text: "| | =1", chip: [3]int{1, 1, 1}, tiles: []int{0}, nets: ""}, "-1>0*0", impl.ErrBad},
	} {
		of.by.excepts = of.excepts
		wantsTiming(t, of.by.call(), of.code, "| | 0")
	}
}

// Delays and periods at their bounds and beyond.
func TestTimingRanges(t *testing.T) {
	const low, high = -1 << 63, 1<<63 - 1
	for value, fits := range map[int]bool{low: false, -1000: false, -1: false, 0: true, 1: true, 999: true, 1000: true, 1001: false, 1 << 32: false, high: false} {
		for field := range 5 {
			a := theTiming()
			*[]*int{&a.d.Lut, &a.d.Wire, &a.d.Pad, &a.d.Out, &a.d.Setup}[field] = value
			wantsTimingCode(t, a, fits, impl.ErrRange)
		}
	}
	for value, fits := range map[int]bool{low: false, -1: false, 0: false, 1: true, 2: true, 1000: true, 999999: true, 1000000: true, 1000001: false, 1 << 32: false, high: false} {
		for clock := range 2 {
			a := theTiming()
			a.periods[clock] = value
			wantsTimingCode(t, a, fits, impl.ErrRange)
		}
	}
	// a period for each clock, also for those that nothing hangs on
	for _, of := range []struct {
		text    string
		periods []int
		fits    bool
	}{
		{"a", nil, true}, {"a", []int{1}, false}, {"a | c", []int{1}, true}, {"a | c", nil, false}, {"a | c", []int{}, false}, {"a | c", []int{1, 1}, false}, {"a | c", []int{0}, false}, {"a | c d", []int{1}, false}, {"a | c d", []int{1, 1}, true}, {"a | c d", []int{1, 0}, false}, {"a | c d", []int{1000001, 1}, false}, {"a | c d", []int{1, 1, 1}, false}, {"a | c d", []int{1, 1, 0}, false},
		{"a | c d e f g h i j", slices.Repeat([]int{7}, 8), true}, {"a | c d e f g h i j", slices.Repeat([]int{7}, 7), false}, {"a | c d e f g h i j", slices.Repeat([]int{7}, 9), false}, {"a | c", slices.Repeat([]int{7}, 4096), false}, {"a | c", slices.Repeat([]int{7}, 4097), false}, {"a | c", make([]int, 1<<20), false},
	} {
		a := timingByHand{text: of.text, chip: [3]int{1, 1, 1}, nets: ""}.call()
		a.periods = of.periods
		wantsTimingCode(t, a, of.fits, impl.ErrRange)
	}
}

// wantsTimingCode holds Timing against a code, where it does not fit.
func wantsTimingCode(t *testing.T, a timingCall, fits bool, code int) {
	t.Helper()
	if fits {
		code = impl.OK
	}
	holdTiming(t, a, code)
}

// What is no design that was routed, and several faults in one call, in the chapter's order.
func TestTimingFaults(t *testing.T) {
	wrongNets := map[string]func(a *timingCall){
		"no nets": func(a *timingCall) { a.nets = nil }, "a net less": func(a *timingCall) { a.nets = a.nets[:4] }, "a net more": func(a *timingCall) { a.nets = append(a.nets, nil) },
		"an end that is not reached": func(a *timingCall) { a.nets[1] = a.nets[1][:2] }, "a wire twice": func(a *timingCall) { a.nets[0] = append(a.nets[0], a.nets[0][0]) }, "a wire that is not there": func(a *timingCall) { a.nets[0][0].Track = 3 }, "a wire of nothing": func(a *timingCall) { a.nets[1][2].From = 7 },
		"a tile less": func(a *timingCall) { a.tiles = a.tiles[:2] }, "a tile twice": func(a *timingCall) { a.tiles[1] = 0 }, "other tiles": func(a *timingCall) { a.tiles = []int{2, 1, 0} }, "very many tiles": func(a *timingCall) { a.tiles = firstTiles(5000) }, "very many nets": func(a *timingCall) { a.nets = make([][]impl.Hop, 5000) },
		"no chip": func(a *timingCall) { a.c = impl.Chip{} }, "too few pads": func(a *timingCall) { a.c.Pads = 1 }, "no such source": func(a *timingCall) { a.p.Outs[0].Src = 5 }, "no such clock": func(a *timingCall) { a.p.Blocks[1].Clock = 2 }, "a name twice": func(a *timingCall) { a.p.Ins[1] = "a" },
	}
	ranges := map[string]func(a *timingCall){
		"a delay": func(a *timingCall) { a.d.Setup = 1001 }, "another delay": func(a *timingCall) { a.d.Lut = -1 }, "too few periods": func(a *timingCall) { a.periods = a.periods[:1] }, "a period": func(a *timingCall) { a.periods[1] = 0 },
	}
	excepts := map[string]func(a *timingCall){
		"From": func(a *timingCall) { a.excepts = exceptsRead("0>0*1 4>0*1") }, "To": func(a *timingCall) { a.excepts = exceptsRead("0>2*1 0>0*1") }, "Cycles": func(a *timingCall) { a.excepts = exceptsRead("0>0*101") },
	}
	tooLong := func(a *timingCall) { a.excepts = make([]impl.Except, 4097) }
	for _, ofNets := range wrongNets {
		wantsTiming(t, theTiming().with(ofNets), impl.ErrBad, "")
		for _, ofRange := range ranges {
			wantsTiming(t, theTiming().with(ofNets).with(ofRange), impl.ErrBad, "")
			for _, ofExcepts := range excepts {
				wantsTiming(t, theTiming().with(ofNets).with(ofRange).with(ofExcepts), impl.ErrBad, "")
			}
		}
		wantsTiming(t, theTiming().with(ofNets).with(tooLong), impl.ErrLong, "")
	}
	for _, ofRange := range ranges {
		wantsTiming(t, theTiming().with(ofRange), impl.ErrRange, "")
		for _, ofExcepts := range excepts {
			wantsTiming(t, theTiming().with(ofRange).with(ofExcepts), impl.ErrRange, "")
		}
		wantsTiming(t, theTiming().with(ofRange).with(tooLong), impl.ErrLong, "")
	}
	for _, ofExcepts := range excepts {
		wantsTiming(t, theTiming().with(ofExcepts), impl.ErrBad, "")
	}
	wantsTiming(t, theTiming(), impl.OK, theReport)
}

// As many excepts as a list may have, of which the last one counts, and one more.
func TestTimingManyExcepts(t *testing.T) {
	a := theTiming()
	a.excepts = slices.Repeat(exceptsRead("-1>-1*0"), impl.MaxList-1)
	wantsTiming(t, a, impl.OK, "| | 0")
	a.excepts = append(a.excepts, impl.Except{From: 2, To: 1, Cycles: 1})
	wantsTiming(t, a, impl.OK, "2>1:623,611,1377 | | 1377")
	a.excepts = append(a.excepts, impl.Except{From: 2, To: 1, Cycles: 1})
	wantsTiming(t, a, impl.ErrLong, "")
	a.excepts = make([]impl.Except, 1<<20)
	wantsTiming(t, a, impl.ErrLong, "")
}
