package tests

import (
	"fmt"
	"slices"
	"strings"

	"loop.example/g00031/impl"
)

// packRead reads a packed design: inputs, clocks, blocks, outs and checks with `|` between them; a block is its In and its Table, as 0,2=8 (=1 without In), one that is Reg a name, its Init, these and its clock, as r=1<0,2=8@0, an out or check a name and its Src, as y:6.
func packRead(text string) impl.Packed {
	parts := append(strings.Split(text, "|"), "", "", "", "")
	p := impl.Packed{Ins: strings.Fields(parts[0]), Clocks: strings.Fields(parts[1])}
	for word := range strings.FieldsSeq(parts[2]) {
		var b impl.Block
		if reg, table, isReg := strings.Cut(word, "<"); isReg {
			name, init, _ := strings.Cut(reg, "=")
			table, clock, _ := strings.Cut(table, "@")
			b = impl.Block{Name: name, Reg: true, Init: numberRead(init), Clock: numberRead(clock)}
			word = table
		}
		in, table, _ := strings.Cut(word, "=")
		b.In, b.Table = numbersRead(strings.ReplaceAll(in, ",", " ")), numberRead(table)
		p.Blocks = append(p.Blocks, b)
	}
	p.Outs, p.Checks = portsRead(parts[3]), portsRead(parts[4])
	return p
}

// packWritten writes a packed design as packRead reads it.
func packWritten(p impl.Packed) string {
	var blocks []string
	for _, b := range p.Blocks {
		in := strings.ReplaceAll(fmt.Sprint(b.In), " ", ",")
		word := fmt.Sprint(in[1:len(in)-1], "=", b.Table)
		if b.Reg {
			word = fmt.Sprint(b.Name, "=", b.Init, "<", word, "@", b.Clock)
		}
		blocks = append(blocks, word)
	}
	var parts []string
	for _, part := range [][]string{p.Ins, p.Clocks, blocks, portsWritten(p.Outs), portsWritten(p.Checks)} {
		parts = append(parts, strings.Join(part, " "))
	}
	return strings.Join(parts, " | ")
}

func portsWritten(ports []impl.Port) []string {
	var words []string
	for _, p := range ports {
		words = append(words, fmt.Sprint(p.Name, ":", p.Src))
	}
	return words
}

func packShown(p impl.Packed) string { return fmt.Sprintf("%+v", p) }

// thePack has a register that takes a and b and itself, one that takes the other one, and tables between them of which one reads both registers, one a table ahead of it, and one nothing.
const thePack = "a b | c d | r=1<0,1,2=150@0 s=0<2=2@1 2,3=8 1,4=9 =1 | y:4 z:5 | k:6 q:0"

func thePacked() impl.Packed { return packRead(thePack) }

// mayRead tells whether a block may read a source of blocks of which so are Reg.
func mayRead(p impl.Packed, block, source int) bool {
	if source < len(p.Ins) || p.Blocks[block].Reg {
		return true
	}
	read := source - len(p.Ins)
	return p.Blocks[read].Reg || read < block
}

// packed draws a design of all kinds of blocks, also of those that Pack never makes: registers and tables in any order, In that fall.
func (d *draughtsman) packed(ins, blocks int) impl.Packed {
	var p impl.Packed
	clocks := 1 + d.below(3)
	names := d.names(ins + clocks)
	p.Ins, p.Clocks = names[:ins:ins], names[ins:]
	regs := d.below(4)
	for range blocks {
		p.Blocks = append(p.Blocks, impl.Block{Reg: d.below(4) < regs})
	}
	names = d.names(blocks)
	sources := ins + blocks
	for at := range p.Blocks {
		b := &p.Blocks[at]
		for range d.below(5) {
			if source := d.source(sources); mayRead(p, at, source) && !slices.Contains(b.In, source) {
				b.In = append(b.In, source)
			}
		}
		b.Table = d.below(tableBy(len(b.In), func(row int) bool { return true }) + 1)
		if b.Reg {
			b.Name, b.Init, b.Clock = names[at], d.below(2), d.below(clocks)
		}
	}
	if sources == 0 {
		return p
	}
	for _, ports := range []*[]impl.Port{&p.Outs, &p.Checks} {
		for _, name := range d.names(d.below(5)) {
			*ports = append(*ports, impl.Port{Name: name, Src: d.source(sources)})
		}
	}
	return p
}

func (d *draughtsman) anyPacked() impl.Packed {
	return d.packed(d.below(6), d.below(20))
}

func (d *draughtsman) chip() impl.Chip {
	return impl.Chip{Wide: 1 + d.below(8), High: 1 + d.below(8), Tracks: 1 + d.below(8), Pads: 1 + d.below(4)}
}

// roomyChip is a chip with room for a design, with pads to spare or just enough.
func (d *draughtsman) roomyChip(p impl.Packed) impl.Chip {
	for {
		c := d.chip()
		if len(p.Blocks) <= c.Wide*c.High && max(len(p.Ins), len(p.Outs)+len(p.Checks)) <= c.High*c.Pads {
			return c
		}
	}
}

// tiles are of each block one of its own.
func (d *draughtsman) tiles(p impl.Packed, c impl.Chip) []int {
	var all []int
	for tile := range c.Wide * c.High {
		all = append(all, tile)
	}
	return mixed(&d.choices, all)[:len(p.Blocks)]
}

// packPieces are all numbers, texts and flags of a packed design that can be changed.
func packPieces(p *impl.Packed) (numbers []*int, texts []*string, flags []*bool) {
	for _, list := range [][]string{p.Ins, p.Clocks} {
		for i := range list {
			texts = append(texts, &list[i])
		}
	}
	for i := range p.Blocks {
		b := &p.Blocks[i]
		numbers, texts, flags = append(numbers, &b.Table, &b.Init, &b.Clock), append(texts, &b.Name), append(flags, &b.Reg)
		for k := range b.In {
			numbers = append(numbers, &b.In[k])
		}
	}
	for _, list := range [][]impl.Port{p.Outs, p.Checks} {
		for i := range list {
			numbers, texts = append(numbers, &list[i].Src), append(texts, &list[i].Name)
		}
	}
	return numbers, texts, flags
}

// bentPack changes one piece of a packed design.
func (d *draughtsman) bentPack(p *impl.Packed) {
	numbers, texts, flags := packPieces(p)
	kind := d.below(9)
	switch {
	case kind == 0 && len(texts) > 0:
		text := texts[d.below(len(texts))]
		*text = d.oneOf("", *text+"0", "x", *texts[d.below(len(texts))], strings.Repeat("n", 1000), strings.Repeat("n", 1001))
	case kind == 1 && len(p.Ins) > 0:
		p.Ins = p.Ins[1:]
	case kind == 2 && len(p.Clocks) > 0:
		p.Clocks = p.Clocks[:len(p.Clocks)-1]
	case kind == 3 && len(p.Blocks) > 0:
		at := d.below(len(p.Blocks))
		p.Blocks = slices.Delete(p.Blocks, at, at+1)
	case kind == 4 && len(p.Blocks) > 0:
		b := &p.Blocks[d.below(len(p.Blocks))]
		b.In = append(b.In, d.below(10))
	case kind == 5 && len(p.Blocks) > 1:
		at := d.below(len(p.Blocks) - 1)
		p.Blocks[at], p.Blocks[at+1] = p.Blocks[at+1], p.Blocks[at]
	case kind == 6 && len(flags) > 0:
		flag := flags[d.below(len(flags))]
		*flag = !*flag
	case len(numbers) > 0:
		*numbers[d.below(len(numbers))] += []int{1, -1, 2, -2, 31, 1 << 40}[d.below(6)]
	}
}

// roomyPack is a copy with room behind each list.
func roomyPack(p impl.Packed) impl.Packed {
	var blocks []impl.Block
	for _, b := range p.Blocks {
		b.In = roomyList(b.In, 77)
		blocks = append(blocks, b)
	}
	return impl.Packed{
		Ins: roomyList(p.Ins, "behind"), Clocks: roomyList(p.Clocks, "behind"), Blocks: roomyList(blocks, impl.Block{Table: -7}),
		Outs: roomyList(p.Outs, impl.Port{Name: "behind"}), Checks: roomyList(p.Checks, impl.Port{Name: "behind"}),
	}
}

// wholePack writes a packed design out with what stands behind its lists.
func wholePack(p impl.Packed) string {
	text := fmt.Sprint(p.Ins[:cap(p.Ins)], p.Clocks[:cap(p.Clocks)], p.Outs[:cap(p.Outs)], p.Checks[:cap(p.Checks)])
	for _, b := range p.Blocks[:cap(p.Blocks)] {
		text += fmt.Sprint(b.Name, b.In[:cap(b.In)], b.Table, b.Reg, b.Init, b.Clock)
	}
	return text
}
