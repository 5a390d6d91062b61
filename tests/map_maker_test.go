package tests

import (
	"fmt"
	"slices"
	"strings"

	"loop.example/g00031/impl"
)

// mapRead reads a mapped design: inputs, clocks, registers, tables, outs and checks with `|` between them; a register is a name, its Init, its Src and its clock, as l=0<7@0, a table its In and its Table, as 0,2=8 (=1 without In), an out or check a name and its Src, as y:6.
func mapRead(text string) impl.Mapped {
	parts := append(strings.Split(text, "|"), "", "", "", "", "")
	m := impl.Mapped{Ins: strings.Fields(parts[0]), Clocks: strings.Fields(parts[1])}
	for word := range strings.FieldsSeq(parts[2]) {
		name, rest, _ := strings.Cut(word, "=")
		init, rest, _ := strings.Cut(rest, "<")
		src, clock, _ := strings.Cut(rest, "@")
		m.Regs = append(m.Regs, impl.MapReg{Name: name, Init: numberRead(init), Src: numberRead(src), Clock: numberRead(clock)})
	}
	for word := range strings.FieldsSeq(parts[3]) {
		in, table, _ := strings.Cut(word, "=")
		m.Luts = append(m.Luts, impl.Lut{In: numbersRead(strings.ReplaceAll(in, ",", " ")), Table: numberRead(table)})
	}
	m.Outs, m.Checks = portsRead(parts[4]), portsRead(parts[5])
	return m
}

func portsRead(text string) []impl.Port {
	var ports []impl.Port
	for _, p := range pinsRead(text) {
		ports = append(ports, impl.Port{Name: p.Name, Src: p.Lit})
	}
	return ports
}

// mapWritten writes a mapped design as mapRead reads it.
func mapWritten(m impl.Mapped) string {
	var regs, luts, outs, checks []string
	for _, r := range m.Regs {
		regs = append(regs, fmt.Sprintf("%s=%d<%d@%d", r.Name, r.Init, r.Src, r.Clock))
	}
	for _, l := range m.Luts {
		in := strings.ReplaceAll(fmt.Sprint(l.In), " ", ",")
		luts = append(luts, fmt.Sprint(in[1:len(in)-1], "=", l.Table))
	}
	for _, p := range m.Outs {
		outs = append(outs, fmt.Sprint(p.Name, ":", p.Src))
	}
	for _, p := range m.Checks {
		checks = append(checks, fmt.Sprint(p.Name, ":", p.Src))
	}
	var parts []string
	for _, part := range [][]string{m.Ins, m.Clocks, regs, luts, outs, checks} {
		parts = append(parts, strings.Join(part, " "))
	}
	return strings.Join(parts, " | ")
}

func mapShown(m impl.Mapped) string { return fmt.Sprintf("%+v", m) }

// theMap counts up by i with two registers of one clock, and keeps with another one what j was; its last table is told by nobody.
const theMap = "i j | c d | l=0<5@0 m=1<6@0 n=0<1@1 | 0,2=6 0,2,3=120 4=1 =1 7,5,8=45 | y:2 z:7 w:8 | k:5 q:6"

func theMapped() impl.Mapped { return mapRead(theMap) }

// mapped draws a design of all kinds of tables, also of those that MapLuts never makes: sources that fall, tables that do not hang on what they read, and such that nothing needs.
func (d *draughtsman) mapped(ins, regs, luts int) impl.Mapped {
	var m impl.Mapped
	clocks := d.below(4) + numberIf(regs > 0)
	names := d.names(ins + clocks)
	m.Ins, m.Clocks = names[:ins:ins], names[ins:]
	for i := range luts {
		m.Luts = append(m.Luts, d.lut(ins+regs+i))
	}
	sources := ins + regs + luts
	if sources == 0 {
		return m
	}
	for _, name := range d.names(regs) {
		m.Regs = append(m.Regs, impl.MapReg{Name: name, Src: d.source(sources), Init: d.below(2), Clock: d.below(clocks)})
	}
	for _, ports := range []*[]impl.Port{&m.Outs, &m.Checks} {
		for _, name := range d.names(d.below(5)) {
			*ports = append(*ports, impl.Port{Name: name, Src: d.source(sources)})
		}
	}
	return m
}

// source is one of the first, more often of the last of them.
func (d *draughtsman) source(sources int) int {
	return d.lit(sources) / 2
}

func (d *draughtsman) lut(sources int) impl.Lut {
	var l impl.Lut
	for range d.below(5) {
		if sources == 0 {
			break
		}
		if source := d.source(sources); !slices.Contains(l.In, source) {
			l.In = append(l.In, source)
		}
	}
	l.Table = d.below(tableBy(len(l.In), func(row int) bool { return true }) + 1)
	return l
}

func (d *draughtsman) anyMapped() impl.Mapped {
	return d.mapped(d.below(6), d.below(6), d.below(30))
}

// mapPieces are all numbers and texts of a mapped design that can be changed.
func mapPieces(m *impl.Mapped) (numbers []*int, texts []*string) {
	for _, list := range [][]string{m.Ins, m.Clocks} {
		for i := range list {
			texts = append(texts, &list[i])
		}
	}
	for i := range m.Regs {
		r := &m.Regs[i]
		numbers, texts = append(numbers, &r.Src, &r.Init, &r.Clock), append(texts, &r.Name)
	}
	for i := range m.Luts {
		numbers = append(numbers, &m.Luts[i].Table)
		for k := range m.Luts[i].In {
			numbers = append(numbers, &m.Luts[i].In[k])
		}
	}
	for _, list := range [][]impl.Port{m.Outs, m.Checks} {
		for i := range list {
			numbers, texts = append(numbers, &list[i].Src), append(texts, &list[i].Name)
		}
	}
	return numbers, texts
}

// bentMap changes one piece of a mapped design.
func (d *draughtsman) bentMap(m *impl.Mapped) {
	numbers, texts := mapPieces(m)
	kind := d.below(8)
	switch {
	case kind == 0 && len(texts) > 0:
		text := texts[d.below(len(texts))]
		*text = d.oneOf("", *text+"0", "x", *texts[d.below(len(texts))], strings.Repeat("n", 1000), strings.Repeat("n", 1001))
	case kind == 1 && len(m.Ins) > 0:
		m.Ins = m.Ins[1:]
	case kind == 2 && len(m.Clocks) > 0:
		m.Clocks = m.Clocks[:len(m.Clocks)-1]
	case kind == 3 && len(m.Luts) > 0:
		at := d.below(len(m.Luts))
		m.Luts = slices.Delete(m.Luts, at, at+1)
	case kind == 4 && len(m.Luts) > 0:
		l := &m.Luts[d.below(len(m.Luts))]
		l.In = append(l.In, d.below(10))
	case kind == 5 && len(m.Luts) > 0:
		l := &m.Luts[d.below(len(m.Luts))]
		l.In = l.In[:d.below(len(l.In)+1)]
	case len(numbers) > 0:
		*numbers[d.below(len(numbers))] += []int{1, -1, 2, -2, 31, 1 << 40}[d.below(6)]
	}
}

// roomyMap is a copy with room behind each list.
func roomyMap(m impl.Mapped) impl.Mapped {
	var luts []impl.Lut
	for _, l := range m.Luts {
		luts = append(luts, impl.Lut{In: roomyList(l.In, 77), Table: l.Table})
	}
	return impl.Mapped{
		Ins: roomyList(m.Ins, "behind"), Clocks: roomyList(m.Clocks, "behind"), Regs: roomyList(m.Regs, impl.MapReg{Name: "behind"}),
		Luts: roomyList(luts, impl.Lut{Table: -7}), Outs: roomyList(m.Outs, impl.Port{Name: "behind"}), Checks: roomyList(m.Checks, impl.Port{Name: "behind"}),
	}
}

// wholeMap writes a mapped design out with what stands behind its lists.
func wholeMap(m impl.Mapped) string {
	text := fmt.Sprint(m.Ins[:cap(m.Ins)], m.Clocks[:cap(m.Clocks)], m.Regs[:cap(m.Regs)], m.Outs[:cap(m.Outs)], m.Checks[:cap(m.Checks)])
	for _, l := range m.Luts[:cap(m.Luts)] {
		text += fmt.Sprint(l.In[:cap(l.In)], l.Table)
	}
	return text
}
