package tests

import (
	"fmt"
	"slices"
	"strings"
	"testing"

	"loop.example/g00031/impl"
)

func TestPackConstants(t *testing.T) {
	if impl.MaxBlocks != 512 {
		t.Error(impl.MaxBlocks)
	}
}

// wantsPack holds PackOK against what is told; where that is no packed design each call says so.
func wantsPack(t *testing.T, what string, p impl.Packed, want bool) {
	t.Helper()
	if got := impl.PackOK(p); got != want || packTold(p) != want {
		t.Errorf("%s: %v, told %v", what, got, packTold(p))
	}
	code := impl.OK
	if !want {
		code = impl.ErrBad
	}
	if rows, got := impl.PackRun(p, nil); got != code || len(rows) != 0 {
		t.Errorf("%s: PackRun: code %d, %d rows", what, got, len(rows))
	}
	if want {
		return
	}
	c := impl.Chip{Wide: 8, High: 8, Tracks: 1, Pads: 4}
	if tiles := firstTiles(len(p.Blocks)); impl.PlaceOK(p, c, tiles) || impl.Cost(p, c, tiles) != -1 {
		t.Errorf("%s: it is placed", what)
	}
	if tiles, got := impl.Place(p, c, 1, 1); got != impl.ErrBad || len(tiles) != 0 {
		t.Errorf("%s: Place: code %d, %v", what, got, tiles)
	}
}

// firstTiles are 0, 1, 2 and so on.
func firstTiles(count int) []int {
	var tiles []int
	for i := range count {
		tiles = append(tiles, i)
	}
	return tiles
}

func TestPackOK(t *testing.T) {
	wantsPack(t, "nothing", impl.Packed{}, true)
	for _, text := range []string{
		thePack,
		"a", "| c", "a | c", "a | | | y:0 z:0 | k:0", "| | =0 =1 | y:0 z:1 | k:1 q:1",
		// as many In as there may be, in any order, blocks among them
		"a b d e | | 0=2 0,1=8 1,0=8 3,1,2,0=1 4,0=2 7,5,4,6=65535",
		// Table's greatest one by the number of In
		"a b d e | | =1 0=3 0,1=15 0,1,2=255 0,1,2,3=65535",
		"a b d e | c | l=0<=1@0 m=0<0=3@0 n=0<0,1=15@0 o=0<0,1,2=255@0 p=0<0,1,2,3=65535@0",
		// a register of its own, of an input, of one behind it and one ahead of it, of tables behind it and ahead of it
		"a | c | l=0<1=2@0", "a | c | l=0<0=2@0", "a | c | l=0<2=2@0 m=0<1=2@0", "a | c | l=0<2=2@0 0=1", "a | c | 0=1 l=0<1=2@0",
		"a | c | l=0<4,3,2,1=7@0 1=1 2=1 m=0<1,2,3,4=7@0",
		// a table of a register ahead of it and one behind it, and of a table ahead of it
		"a | c | l=0<0=2@0 1=1", "a | c | 2=1 l=0<0=2@0", "a | c | 0=1 1=1 2,4=6 l=0<0=2@0", "a | c | 2,0=6 l=0<1=2@0",
		// two that go round by way of a register
		"| c | 1=1 l=0<0=2@0", "| c | l=0<1=2@0 0=1",
		// the last clock, and each Init
		"| c d | l=1<=0@1 m=0<=0@0", "| c1 c2 c3 c4 c5 c6 c7 c8 | l=1<=0@7",
		// no clock where no block is a register
		"a | | 0=2 1=1",
		// outs and checks of an input, a register, a table, the last source
		"a | c | l=0<0=2@0 0=2 | w:0 x:1 y:2 z:2 | k:0 q:1 p:2",
		// names that need not differ
		"a b | c | a=0<0=2@0 c=0<0=2@0 y=0<0=2@0 =1 | a:0 y:0 c:0 l:0 | y:0 a:0 l:0 c:0",
	} {
		wantsPack(t, text, packRead(text), true)
		if again := packWritten(packRead(text)); packShown(packRead(again)) != packShown(packRead(text)) {
			t.Errorf("%s: read as %s", text, again)
		}
	}
	for _, text := range []string{
		// a table of itself, of a table behind it; also where registers stand between
		"a | | 1=2", "a | | 0,1=2", "a | | 2=2 =1", "| | 1=2 0=2", "a | c | 3=2 l=0<0=2@0 0=1", "a | c | l=0<0=2@0 2=2", "a | c | l=0<0=2@0 3=2 0=1", "a | | 0=2 3=2 0=2", "a | | 0=1 0,1,3=2 0=1",
		// what is not there
		"a | | -1=2", "a | | 0,-1=2", "| | 0=2", "a | | 0=2 3=2", "| | =1 -1=2", "a | c | l=0<2=2@0", "a | c | l=0<-1=2@0", "| c | l=0<1=2@0", "a | c | l=0<0,1,3=2@0 =0",
		// a source twice
		"a b | | 0,0=2", "a b | | 0,1,0=2", "a b | | 1,0,0=2", "a b d | | 0,1,2,0=1", "a | | 0=2 1,1=0", "a | c | l=0<1,1=2@0", "a | c | l=0<0,1,0=2@0",
		// more In than there may be
		"a b d e f | | 0,1,2,3,4=1", "a b d e f | | 0,1,2,3,4=0", "a b d e f | c | l=0<0,1,2,3,4=1@0",
		// a Table that is none, by the number of In
		"| | =2", "| | =-1", "a | | 0=4", "a | | 0=-1", "a b | | 0,1=16", "a b | | 0,1=-1", "a b d | | 0,1,2=256", "a b d | | 0,1,2=-1", "a b d e | | 0,1,2,3=65536", "a b d e | | 0,1,2,3=-1",
		"| c | l=0<=2@0", "| c | l=0<=-1@0", "a | c | l=0<0=4@0", "a b d e | c | l=0<0,1,2,3=65536@0",
		// a source that is not there
		"a | | | y:1", "a | | | y:-1", "a | | | y:0 z:1", "a | | | | k:1", "a | | | | k:-1", "| | | y:0", "| | | | k:0", "a | | =1 | y:2", "a | | =1 | y:1 | k:2", "a | c | l=0<0=2@0 | y:2", "a | c | l=0<0=2@0 | y:1 | k:2",
		// a clock that is not there
		"| | l=0<=0@0", "| c | l=0<=0@1", "| c | l=0<=0@-1", "| c d | l=0<=0@2",
		// an Init that is none
		"| c | l=2<=0@0", "| c | l=-1<=0@0", "| c | l=3<=0@0 m=0<=0@0",
		// names twice, and none
		"a a", "a b a", "| c c", "a | a", "a b | c a", "| c | l=0<=0@0 l=0<=0@0", "| c | l=0<=0@0 =1 m=0<=0@0 l=0<=0@0", "| c | =0<=0@0", "| c | l=0<=0@0 =0<=0@0", "a | | | y:0 y:0", "a | | | y:0 z:0 y:0", "a | | | | k:0 k:0",
	} {
		wantsPack(t, text, packRead(text), false)
	}
}

// What a block that is not Reg may not have, and one that is must.
func TestPackRegFields(t *testing.T) {
	for what, c := range map[string]struct {
		change func(b *impl.Block)
		want   [2]bool
	}{
		"nothing changed":            {func(b *impl.Block) {}, [2]bool{true, true}},
		"a name":                     {func(b *impl.Block) { b.Name = "n" }, [2]bool{false, true}},
		"a register's name":          {func(b *impl.Block) { b.Name = "l" }, [2]bool{false, false}},
		"an input's name":            {func(b *impl.Block) { b.Name = "a" }, [2]bool{false, true}},
		"a clock's name":             {func(b *impl.Block) { b.Name = "c" }, [2]bool{false, true}},
		"a longest name":             {func(b *impl.Block) { b.Name = zeros(1000) }, [2]bool{false, true}},
		"too long a name":            {func(b *impl.Block) { b.Name = zeros(1001) }, [2]bool{false, false}},
		"no name":                    {func(b *impl.Block) { b.Name = "" }, [2]bool{true, false}},
		"Init 0":                     {func(b *impl.Block) { b.Init = 0 }, [2]bool{true, true}},
		"Init 1":                     {func(b *impl.Block) { b.Init = 1 }, [2]bool{false, true}},
		"Init 2":                     {func(b *impl.Block) { b.Init = 2 }, [2]bool{false, false}},
		"Init -1":                    {func(b *impl.Block) { b.Init = -1 }, [2]bool{false, false}},
		"clock 1":                    {func(b *impl.Block) { b.Clock = 1 }, [2]bool{false, true}},
		"a clock that is not there":  {func(b *impl.Block) { b.Clock = 2 }, [2]bool{false, false}},
		"a clock below 0":            {func(b *impl.Block) { b.Clock = -1 }, [2]bool{false, false}},
		"a register or none instead": {func(b *impl.Block) { b.Reg = !b.Reg }, [2]bool{false, false}},
	} {
		for at, want := range c.want {
			p := packRead("a b | c d | 0,1=6 m=0<0=2@0 l=1<0,1,2,3=150@0 | y:2 | k:3")
			c.change(&p.Blocks[at])
			wantsPack(t, fmt.Sprint(what, " of block ", at), p, want)
		}
	}
	// a register reads itself, and a table in its place would too
	p := packRead("a | c | l=0<0,1=6@0")
	p.Blocks[0].Name, p.Blocks[0].Reg = "", false
	wantsPack(t, "a table that reads itself", p, false)
	p = packRead("a | | 0=1 1=1")
	p.Blocks[0].In[0], p.Blocks[1].In[0] = 2, 0
	wantsPack(t, "a table that reads one behind it", p, false)
	p.Clocks = []string{"c"}
	p.Blocks[1].Name, p.Blocks[1].Reg = "l", true
	wantsPack(t, "a table that reads a register behind it", p, true)
}

func TestPackOKFarOut(t *testing.T) {
	const low, high = -1 << 63, 1<<63 - 1
	for what, piece := range map[string]func(p *impl.Packed) *int{
		"a register's In":    func(p *impl.Packed) *int { return &p.Blocks[0].In[1] },
		"a table's In":       func(p *impl.Packed) *int { return &p.Blocks[2].In[0] },
		"a register's Table": func(p *impl.Packed) *int { return &p.Blocks[0].Table },
		"a table's Table":    func(p *impl.Packed) *int { return &p.Blocks[3].Table },
		"a lone one's Table": func(p *impl.Packed) *int { return &p.Blocks[4].Table },
		"an Init":            func(p *impl.Packed) *int { return &p.Blocks[1].Init },
		"a Clock":            func(p *impl.Packed) *int { return &p.Blocks[1].Clock },
		"a table's Init":     func(p *impl.Packed) *int { return &p.Blocks[2].Init },
		"a table's Clock":    func(p *impl.Packed) *int { return &p.Blocks[4].Clock },
		"an out's Src":       func(p *impl.Packed) *int { return &p.Outs[1].Src },
		"a check's Src":      func(p *impl.Packed) *int { return &p.Checks[0].Src },
	} {
		for _, value := range []int{low, low + 1, -1 << 32, 1 << 32, high - 1, high} {
			p := thePacked()
			*piece(&p) = value
			wantsPack(t, fmt.Sprint(what, " ", value), p, false)
		}
	}
	for _, count := range []int{5, 6, 32, 63, 64, 65, 1 << 20} {
		for block := range 5 {
			p := thePacked()
			p.Blocks[block].In = make([]int, count)
			wantsPack(t, fmt.Sprint(count, " of In"), p, false)
		}
	}
}

func TestPackNames(t *testing.T) {
	names := map[string]func(p *impl.Packed) *string{
		"input":    func(p *impl.Packed) *string { return &p.Ins[0] },
		"clock":    func(p *impl.Packed) *string { return &p.Clocks[1] },
		"register": func(p *impl.Packed) *string { return &p.Blocks[1].Name },
		"out":      func(p *impl.Packed) *string { return &p.Outs[1].Name },
		"check":    func(p *impl.Packed) *string { return &p.Checks[0].Name },
	}
	for what, name := range names {
		for length, want := range map[int]bool{0: false, 1: true, 999: true, impl.MaxLine: true, impl.MaxLine + 1: false, 1 << 20: false} {
			p := thePacked()
			*name(&p) = strings.Repeat("x", length)
			wantsPack(t, fmt.Sprint(what, " of ", length), p, want)
		}
	}
	// of each two kinds of names, which must differ
	for first, one := range names {
		for second, other := range names {
			p := thePacked()
			*one(&p) = "the same"
			*other(&p) = "the same"
			differ := first+second == "inputclock" || first+second == "clockinput"
			wantsPack(t, first+" and "+second, p, !differ)
		}
	}
}

// widePack has so many of each, of which each table reads the block ahead of it, or the last input, and each register the last block.
func widePack(ins, regs, tables, outs, checks, clocks int) impl.Packed {
	var p impl.Packed
	last := ins + regs + tables - 1
	for i := range ins {
		p.Ins = append(p.Ins, fmt.Sprint("i", i))
	}
	for i := range clocks {
		p.Clocks = append(p.Clocks, fmt.Sprint("c", i))
	}
	for i := range regs {
		p.Blocks = append(p.Blocks, impl.Block{Name: fmt.Sprint("l", i), In: []int{last}, Table: 1, Reg: true, Init: i % 2, Clock: i % clocks})
	}
	for i := range tables {
		p.Blocks = append(p.Blocks, impl.Block{In: []int{ins + regs + i - 1}, Table: 1})
	}
	for i := range outs {
		p.Outs = append(p.Outs, impl.Port{Name: fmt.Sprint("y", i), Src: last})
	}
	for i := range checks {
		p.Checks = append(p.Checks, impl.Port{Name: fmt.Sprint("k", i), Src: last})
	}
	return p
}

// Each bound at it and one beyond it.
func TestPackLimits(t *testing.T) {
	for _, c := range []struct {
		ins, regs, tables, outs, checks, clocks int
		want                                    bool
	}{
		{1, 0, 512, 1, 0, 0, true}, {1, 0, 513, 1, 0, 0, false},
		{0, 512, 0, 0, 0, 1, true}, {0, 513, 0, 0, 0, 1, false},
		{1, 256, 256, 0, 0, 1, true}, {1, 257, 256, 0, 0, 1, false}, {1, 256, 257, 0, 0, 1, false}, {1, 512, 1, 0, 0, 1, false}, {1, 1, 512, 0, 0, 1, false},
		// inputs are bounded without the registers
		{2048, 0, 0, 0, 0, 0, true}, {2049, 0, 0, 0, 0, 0, false}, {2048, 512, 0, 0, 0, 1, true}, {2049, 1, 0, 0, 0, 1, false},
		{1, 0, 0, 2048, 0, 0, true}, {1, 0, 0, 2049, 0, 0, false},
		{1, 0, 0, 0, 2048, 0, true}, {1, 0, 0, 0, 2049, 0, false},
		{1, 0, 0, 0, 0, 8, true}, {1, 0, 0, 0, 0, 9, false},
		{2048, 200, 312, 2048, 2048, 8, true},
		{2049, 200, 312, 2048, 2048, 8, false}, {2048, 201, 312, 2048, 2048, 8, false}, {2048, 200, 313, 2048, 2048, 8, false}, {2048, 200, 312, 2049, 2048, 8, false}, {2048, 200, 312, 2048, 2049, 8, false}, {2048, 200, 312, 2048, 2048, 9, false},
	} {
		wantsPack(t, fmt.Sprint(c), widePack(c.ins, c.regs, c.tables, c.outs, c.checks, c.clocks), c.want)
	}
	p := widePack(2048, 200, 312, 2048, 2048, 8)
	d := draughtsmanOf(7)
	holdPackRun(t, p, d.steps(impl.Aig{Ins: p.Ins, Clocks: p.Clocks}, 3))
	for _, ports := range [][]impl.Port{p.Outs, p.Checks} {
		ports[2047].Src++
		wantsPack(t, "a source above all", p, false)
		ports[2047].Src--
		wantsPack(t, "the last source", p, true)
	}
}

// holdPack holds a packed design against what is told of it.
func holdPack(t *testing.T, m impl.Mapped) (impl.Packed, int) {
	t.Helper()
	got, code := impl.Pack(m)
	want, wantCode := packingTold(m)
	if code != wantCode || packShown(got) != packShown(want) {
		t.Fatalf("%s: code %d, want %d\n%s, want\n%s", mapShown(m), code, wantCode, packWritten(got), packWritten(want))
	}
	return got, code
}

func TestPack(t *testing.T) {
	for text, want := range map[string]string{
		"": "", "i j | c": "i j | c", "i | | | | y:0 z:0 | k:0": "i | | | y:0 z:0 | k:0",
		// tables alone, those too that nothing reads
		"i j | | | 0,1=8 2,0=6 1=1 | y:3 | k:2": "i j | | 0,1=8 2,0=6 1=1 | y:3 | k:2",
		"| | | =1 =0 | y:1":                     "| | =1 =0 | y:1",
		// a register of an input, of another register, of itself
		"i | c | l=0<0@0":           "i | c | l=0<0=2@0",
		"i | c | l=1<1@0":           "i | c | l=1<1=2@0",
		"i | c d | l=1<2@1 m=0<1@0": "i | c d | l=1<2=2@1 m=0<1=2@0",
		// a table that nothing else reads goes into the register's block, whatever it reads
		"i j | c | l=0<3@0 | 0,1=8":                       "i j | c | l=0<0,1=8@0",
		"i j | c | l=1<3@0 | 1,2,0=200 | y:2":             "i j | c | l=1<1,2,0=200@0 | y:2",
		"| c | l=0<1@0 | =1":                              "| c | l=0<=1@0",
		"| c | l=0<1@0 | 0=1":                             "| c | l=0<0=1@0",
		"i | c | l=0<3@0 m=1<4@0 | 0,2=8 1,2=6 | y:1 z:2": "i | c | l=0<0,2=8@0 m=1<1,2=6@0 | y:1 z:2",
		"i | c | l=0<4@0 m=1<3@0 | 0,2=8 1,2=6 | y:1 z:2": "i | c | l=0<1,2=6@0 m=1<0,2=8@0 | y:1 z:2",
		// one that takes an input as it is, as a table of its own would
		"i | c | l=0<2@0 | 0=2": "i | c | l=0<0=2@0",
		// an out reads it, too
		"i j | c | l=0<3@0 | 0,1=8 | y:3": "i j | c | l=0<3=2@0 0,1=8 | y:3",
		// a check
		"i j | c | l=0<3@0 | 0,1=8 | | k:3": "i j | c | l=0<3=2@0 0,1=8 | | k:3",
		// another table
		"i j | c | l=0<3@0 | 0,1=8 3=1": "i j | c | l=0<3=2@0 0,1=8 3=1",
		// another register
		"i j | c | l=0<4@0 m=0<4@0 | 0,1=8":            "i j | c | l=0<4=2@0 m=0<4=2@0 0,1=8",
		"i j | c | l=0<5@0 m=0<5@0 n=1<6@0 | 0,1=8 =1": "i j | c | l=0<5=2@0 m=0<5=2@0 n=1<=1@0 0,1=8",
		// a table that only another one reads, which is a register's
		"i j | c | l=0<4@0 | 0,1=8 3,2=6":         "i j | c | l=0<3,2=6@0 0,1=8",
		"i j | c | l=0<4@0 | 0,1=8 3,2=6 | y:3":   "i j | c | l=0<3,2=6@0 0,1=8 | y:3",
		"i j | c | l=0<3@0 | 0,1=8 2,0=6 4,1=9":   "i j | c | l=0<0,1=8@0 2,0=6 3,1=9",
		"i j | c | l=0<5@0 | 0,1=8 3,2=6 4,3,0=9": "i j | c | l=0<4,3,0=9@0 0,1=8 3,2=6",
		// those behind one that goes are numbered anew: in tables, registers, outs and checks
		"i j | c | l=0<4@0 m=1<6@0 | 0=1 1=1 0,1=6 5=1 | y:5 z:2 | k:6 q:7": "i j | c | l=0<0=1@0 m=1<5=2@0 1=1 0,1=6 4=1 | y:4 z:2 | k:5 q:6",
		"i | c | l=0<5@0 m=1<3@0 | 0=1 1,2=8 0,4=6 4,2=1 6=1 | y:7":         "i | c | l=0<0,3=6@0 m=1<0=1@0 1,2=8 3,2=1 4=1 | y:5",
		// fields of registers, their order, clocks that nothing takes
		"i | c d e | l=1<4@2 m=0<0@0 n=1<5@1 | 0=1 1=1": "i | c d e | l=1<0=1@2 m=0<0=2@0 n=1<1=1@1",
		// names that need not differ
		"i | c | i=0<3@0 c=1<1@0 | 0=1 | i:0 c:1 | c:0": "i | c | i=0<0=1@0 c=1<1=2@0 | i:0 c:1 | c:0",
		theMap: "i j | c d | l=0<5=2@0 m=1<6=2@0 n=0<1=2@1 0,2=6 0,2,3=120 4=1 =1 7,5,8=45 | y:2 z:7 w:8 | k:5 q:6",
	} {
		got, code := holdPack(t, mapRead(text))
		if want = packWritten(packRead(want)); code != impl.OK || packWritten(got) != want {
			t.Errorf("%s: code %d, %s, want %s", text, code, packWritten(got), want)
		}
		wantsPack(t, text, got, true)
	}
	for _, text := range []string{"i i", "i | | | 1=2", "i | | | | y:1", "| c | l=2<0@0", "i | c | l=0<2@0", "| c | l=0<0@0 l=0<0@0"} {
		if got, code := holdPack(t, mapRead(text)); code != impl.ErrBad || packShown(got) != packShown(impl.Packed{}) {
			t.Errorf("%s: code %d, %s", text, code, packShown(got))
		}
	}
}

// wideMapped has so many registers, of which so many have a table of their own each, and so many tables besides.
func wideMapped(regs, own, tables int) impl.Mapped {
	m := impl.Mapped{Ins: []string{"i"}, Clocks: []string{"c"}}
	for i := range regs {
		src := 0
		if i < own {
			src = 1 + regs + tables + i
		}
		m.Regs = append(m.Regs, impl.MapReg{Name: fmt.Sprint("l", i), Src: src})
	}
	for range tables + own {
		m.Luts = append(m.Luts, impl.Lut{In: []int{0}, Table: 1})
	}
	return m
}

// MaxBlocks blocks, of registers and tables, are met and passed.
func TestPackMany(t *testing.T) {
	for _, c := range []struct{ regs, own, tables, want int }{
		{512, 0, 0, 512}, {513, 0, 0, -1}, {0, 0, 512, 512}, {0, 0, 513, -1},
		{256, 0, 256, 512}, {256, 0, 257, -1}, {257, 0, 256, -1},
		{512, 512, 0, 512}, {513, 513, 0, -1}, {512, 512, 1, -1}, {512, 200, 0, 512}, {511, 511, 1, 512},
		{300, 88, 212, 512}, {300, 88, 213, -1}, {300, 300, 212, 512}, {300, 300, 213, -1},
		{2047, 0, 0, -1}, {2047, 1024, 0, -1}, {0, 0, 1024, -1}, {1, 1, 1023, -1}, {511, 511, 513, -1},
	} {
		m := wideMapped(c.regs, c.own, c.tables)
		got, code := holdPack(t, m)
		if c.want < 0 {
			if code != impl.ErrMany || packShown(got) != packShown(impl.Packed{}) {
				t.Errorf("%v: code %d, %d blocks", c, code, len(got.Blocks))
			}
			continue
		}
		if code != impl.OK || len(got.Blocks) != c.want {
			t.Errorf("%v: code %d, %d blocks", c, code, len(got.Blocks))
		}
		wantsPack(t, fmt.Sprint(c), got, true)
	}
	// no design comes ahead of too many
	m := wideMapped(513, 0, 0)
	m.Regs[512].Init = 2
	if _, code := holdPack(t, m); code != impl.ErrBad {
		t.Errorf("code %d", code)
	}
	// what bounds the mapped design bounds the packed one
	for _, m := range []impl.Mapped{wideMap(2048, 0, 0, 2048, 2048, 8), wideMap(1536, 512, 0, 2048, 2048, 8), wideMap(1848, 200, 312, 2048, 2048, 8)} {
		got, code := holdPack(t, m)
		if code != impl.OK {
			t.Errorf("code %d", code)
		}
		wantsPack(t, "as wide as can be", got, true)
	}
}

// holdPackRun holds a packed design's rows against what is told of them.
func holdPackRun(t *testing.T, p impl.Packed, steps []impl.Step) ([]impl.Row, int) {
	t.Helper()
	rows, code := impl.PackRun(p, steps)
	want, wantCode := packRunTold(p, steps)
	if code != wantCode || rowsShown(rows) != rowsShown(want) {
		t.Fatalf("%s\n%v: code %d, want %d\n%s, want\n%s", packShown(p), steps, code, wantCode, rowsShown(rows), rowsShown(want))
	}
	return rows, code
}

func TestPackRun(t *testing.T) {
	const swap = "a | c d | l=0<2=2@0 m=1<1=2@0 n=0<1=2@1 2=1 | x:1 y:2 z:4"
	for what, c := range map[string]struct{ text, steps, want string }{
		"nothing but steps":              {"", "/; /", "//; //"},
		"tables without In":              {"| | =0 =1 | y:0 z:1 | k:1 q:0", "/; /", "0 1/1 0/; 0 1/1 0/"},
		"inputs themselves":              {"a b | | | x:1 y:0 z:1 | k:0", "0 1/; 1 0/", "1 0 1/0/; 0 1 0/1/"},
		"each table of one In":           {"a | | 0=0 0=1 0=2 0=3 | w:1 x:2 y:3 z:4", "0/; 1/", "0 1 0 1//; 0 0 1 1//"},
		"each row of two In":             {"a b | | 0,1=1 0,1=2 0,1=4 0,1=8 | w:2 x:3 y:4 z:5", "0 0/; 1 0/; 0 1/; 1 1/", "1 0 0 0//; 0 1 0 0//; 0 0 1 0//; 0 0 0 1//"},
		"In that fall":                   {"a b | | 1,0=2 1,0=4 | y:2 z:3", "0 0/; 1 0/; 0 1/; 1 1/", "0 0//; 0 1//; 1 0//; 0 0//"},
		"rows of three and four In":      {"a b d e | | 0,1,2=16 0,1,2,3=32768 3,2,1,0=2 | x:4 y:5 z:6", "0 0 1 0/; 1 1 1 1/; 0 0 0 1/; 1 0 0 0/", "1 0 0//; 0 1 0//; 0 0 1//; 0 0 0//"},
		"tables of tables":               {"a b | | 0,1=8 2=1 3,0=8 4,2,1=150 | w:2 x:3 y:4 z:5", "0 0/; 1 0/; 0 1/; 1 1/", "0 1 0 0//; 0 1 1 1//; 0 1 0 1//; 1 0 0 0//"},
		"a register behind a table":      {"a b | c | l=0<0,1=6@0 | y:2", "1 0/t; 1 1/t; 0 1/t", "1//1; 0//0; 1//1"},
		"and keeps it without a tick":    {"a | c | l=0<0=1@0 | y:1", "0/-; 0/t; 1/-; 1/t; 0/-", "0//0; 1//1; 1//1; 0//0; 0//0"},
		"it begins as Init":              {"a | c | l=1<0=2@0 m=0<0=1@0 | y:1 z:2", "0/-; 0/t; 1/t", "1 0//1 0; 0 1//0 1; 1 0//1 0"},
		"a register that turns itself":   {"| c | l=0<0=1@0 | y:0", "/t; /t; /-; /t", "1//1; 0//0; 0//0; 1//1"},
		"registers without In":           {"| c | l=1<=0@0 m=0<=1@0", "/-; /t; /-", "//1 0; //0 1; //0 1"},
		"registers take each other's":    {swap, "0/t-; 0/t-; 0/tt; 0/-t", "1 0 1//1 0 0; 0 1 0//0 1 0; 1 0 1//1 0 0; 1 0 1//1 0 1"},
		"a clock by itself":              {swap, "0/-t; 0/t-; 0/-t; 0/--", "0 1 0//0 1 0; 1 0 1//1 0 0; 1 0 1//1 0 1; 1 0 1//1 0 1"},
		"the row behind the tick":        {"a | c | l=0<3=2@0 0,1=8 0=1 | y:2 | k:3", "0/t; 1/t; 1/t; 0/-", "0/1/1; 0/0/0; 0/0/0; 0/1/0"},
		"a table ahead of its register":  {"a | c | 2,0=6 l=0<1=2@0 | y:1", "1/-; 1/t; 1/t; 0/-", "1//0; 0//1; 1//0; 0//0"},
		"registers in the blocks' order": {"a | c | 0=1 z=0<0=2@0 1=1 y=1<1=2@0 x=0<3=2@0 | p:3", "1/t; 0/t; 0/-", "1//1 0 1; 0//0 1 0; 0//0 1 0"},
		"a register reads tables behind": {"a b | c | l=0<3,4=8@0 0=1 1=1 | y:2 z:3", "0 0/t; 1 0/t; 0 1/-; 0 0/t", "1 1//1; 0 0//0; 0 1//0; 1 1//1"},
		"a shift register":               {"a | c | l=0<0=2@0 m=0<1=2@0 n=0<2=2@0", "1/t; 0/t; 0/t; 1/t", "//1 0 0; //0 1 0; //0 0 1; //1 0 0"},
		"it goes the other way, too":     {"a | c | n=0<2=2@0 m=0<3=2@0 l=0<0=2@0", "1/t; 0/t; 0/t; 1/t", "//0 0 1; //0 1 0; //1 0 0; //0 0 1"},
		"the last inputs are the step's": {"a | c | l=0<0=2@0 0,1=2 | y:2", "1/t; 0/-; 1/-", "0//1; 0//1; 0//1"},
		"a register with all kinds":      {thePack, "0 0/-t; 0 1/t-; 1 0/tt; 1 1/-t", "1 0/1 0/1 1; 0 0/1 0/0 1; 0 1/1 1/1 0; 1 1/1 1/1 1"},
	} {
		rows, code := holdPackRun(t, packRead(c.text), stepsOf(c.steps))
		if code != impl.OK || rowsWritten(rows) != c.want {
			t.Errorf("%s: code %d, %s, want %s", what, code, rowsWritten(rows), c.want)
		}
	}
}

func TestPackRunFaults(t *testing.T) {
	wrong := thePacked()
	wrong.Blocks[2].In[1] = 2
	bad := func(change func(s *impl.Step)) []impl.Step {
		steps := stepsOf("0 1/t-; 1 0/-t; 1 1/tt")
		change(&steps[1])
		return steps
	}
	last := bad(func(s *impl.Step) {})
	last[2].Ins[1] = "x"
	for what, c := range map[string]struct {
		p     impl.Packed
		steps []impl.Step
		want  int
	}{
		"right":                        {thePacked(), bad(func(s *impl.Step) {}), impl.OK},
		"no steps":                     {thePacked(), nil, impl.OK},
		"nothing at all":               {impl.Packed{}, nil, impl.OK},
		"steps of nothing":             {impl.Packed{}, make([]impl.Step, 3), impl.OK},
		"no design":                    {wrong, stepsOf("0 1/t-"), impl.ErrBad},
		"no design and no steps":       {wrong, nil, impl.ErrBad},
		"an empty step":                {thePacked(), make([]impl.Step, 1), impl.ErrBad},
		"an input less":                {thePacked(), bad(func(s *impl.Step) { s.Ins = s.Ins[:1] }), impl.ErrBad},
		"an input more":                {thePacked(), bad(func(s *impl.Step) { s.Ins = append(s.Ins, "0") }), impl.ErrBad},
		"a clock less":                 {thePacked(), bad(func(s *impl.Step) { s.Ticks = s.Ticks[:1] }), impl.ErrBad},
		"a clock more":                 {thePacked(), bad(func(s *impl.Step) { s.Ticks = append(s.Ticks, false) }), impl.ErrBad},
		"no clocks":                    {thePacked(), bad(func(s *impl.Step) { s.Ticks = nil }), impl.ErrBad},
		"no bit":                       {thePacked(), bad(func(s *impl.Step) { s.Ins[1] = "" }), impl.ErrBad},
		"two bits":                     {thePacked(), bad(func(s *impl.Step) { s.Ins[1] = "01" }), impl.ErrBad},
		"a bit that is not known":      {thePacked(), bad(func(s *impl.Step) { s.Ins[0] = "x" }), impl.ErrBad},
		"a bit that is not driven":     {thePacked(), bad(func(s *impl.Step) { s.Ins[0] = "z" }), impl.ErrBad},
		"no bit at all":                {thePacked(), bad(func(s *impl.Step) { s.Ins[0] = "2" }), impl.ErrBad},
		"a very long text":             {thePacked(), bad(func(s *impl.Step) { s.Ins[0] = zeros(1 << 20) }), impl.ErrBad},
		"wrong in the last step":       {thePacked(), last, impl.ErrBad},
		"an input where there is none": {impl.Packed{}, []impl.Step{{Ins: []string{"0"}}}, impl.ErrBad},
		"a clock where there is none":  {impl.Packed{}, []impl.Step{{Ticks: []bool{true}}}, impl.ErrBad},
		"as many steps as can be":      {thePacked(), slices.Repeat(stepsOf("0 1/t-"), impl.MaxList), impl.OK},
		"a step more":                  {thePacked(), slices.Repeat(stepsOf("0 1/t-"), impl.MaxList+1), impl.ErrLong},
		"a step more of no design":     {wrong, make([]impl.Step, impl.MaxList+1), impl.ErrLong},
		"wrong steps, one more":        {thePacked(), make([]impl.Step, impl.MaxList+1), impl.ErrLong},
		"as many, all of them wrong":   {thePacked(), make([]impl.Step, impl.MaxList), impl.ErrBad},
		"very many steps of no design": {wrong, make([]impl.Step, 1<<20), impl.ErrLong},
		"very many inputs of a step":   {thePacked(), []impl.Step{{Ins: make([]string, 1<<20), Ticks: make([]bool, 2)}}, impl.ErrBad},
		"very many inputs":             {impl.Packed{Ins: make([]string, 1<<20)}, nil, impl.ErrBad},
		"very many blocks":             {impl.Packed{Blocks: make([]impl.Block, 1<<20)}, nil, impl.ErrBad},
	} {
		rows, code := holdPackRun(t, c.p, c.steps)
		if code != c.want || code != impl.OK && len(rows) != 0 || code == impl.OK && len(rows) != len(c.steps) {
			t.Errorf("%s: code %d, %d rows", what, code, len(rows))
		}
	}
}
