package tests

import (
	"fmt"
	"slices"
	"strconv"
	"strings"

	"loop.example/g00031/impl"
)

// netRead reads a netlist with ins of 4, 4, 1 and 1 bits and two clocks. Its text has cells, registers, outs and checks with `|` between them: a cell is in0, reg0, '0011 or an operation with its operands, as and(0,1), lts(0,1) (signed), part2@1(0) or size8s(0), its width being plain; a register is a name, its Init, its Next and its clock, as r=0011<2@0; outs and checks are cells.
func netRead(text string) impl.Net {
	n := impl.Net{
		Ins:    []impl.NetPort{{Name: "a", Width: 4}, {Name: "b", Width: 4}, {Name: "e", Width: 1}, {Name: "f", Width: 1}},
		Clocks: []string{"clk", "tck"},
	}
	parts := append(strings.Split(text, "|"), "", "", "")
	for word := range strings.FieldsSeq(parts[1]) {
		name, rest, _ := strings.Cut(word, "=")
		init, rest, _ := strings.Cut(rest, "<")
		next, clock, _ := strings.Cut(rest, "@")
		n.Regs = append(n.Regs, impl.NetReg{Name: name, Width: len(init), Init: init, Next: numberRead(next), Clock: numberRead(clock)})
	}
	for word := range strings.FieldsSeq(parts[0]) {
		n.Cells = append(n.Cells, cellRead(n, word))
	}
	n.Outs, n.Checks = outsRead("y", parts[2]), outsRead("k", parts[3])
	return n
}

func numberRead(text string) int {
	number, err := strconv.Atoi(text)
	if err != nil {
		panic("no number: " + text)
	}
	return number
}

func outsRead(name, text string) []impl.NetOut {
	var outs []impl.NetOut
	for i, word := range strings.Fields(text) {
		outs = append(outs, impl.NetOut{Name: fmt.Sprint(name, i), Cell: numberRead(word)})
	}
	return outs
}

func cellRead(n impl.Net, word string) impl.Cell {
	if bits, ok := strings.CutPrefix(word, "'"); ok {
		return bitsCell(bits)
	}
	if number, ok := strings.CutPrefix(word, "in"); ok {
		return inCell(numberRead(number), n.Ins[numberRead(number)].Width)
	}
	if number, ok := strings.CutPrefix(word, "reg"); ok {
		return regCell(numberRead(number), n.Regs[numberRead(number)].Width)
	}
	name, list, _ := strings.Cut(strings.TrimSuffix(word, ")"), "(")
	var c impl.Cell
	var widths []int
	for in := range strings.SplitSeq(list, ",") {
		c.In = append(c.In, numberRead(in))
		widths = append(widths, n.Cells[numberRead(in)].Width)
	}
	name, low, _ := strings.Cut(name, "@")
	if low != "" {
		c.N = numberRead(low)
	}
	letters := strings.TrimRight(name, "0123456789s")
	rest := name[len(letters):]
	if c.Op = slices.Index(opNames(), name); c.Op < 0 {
		c.Op = slices.Index(opNames(), letters)
		rest, c.Signed = strings.CutSuffix(rest, "s")
	}
	switch {
	case c.Op < 0:
		panic("no cell: " + word)
	case c.Op == impl.OpPart || c.Op == impl.OpSize:
		c.Width = numberRead(rest)
	case c.Op == impl.OpChoose:
		c.Width = widths[1]
	case c.Op == impl.OpJoin:
		for _, width := range widths {
			c.Width += width
		}
	case c.Op >= impl.OpEq && c.Op <= impl.OpLe || c.Op == impl.OpBoth || c.Op == impl.OpEither || c.Op >= impl.OpAll:
		c.Width = 1
	default:
		c.Width = widths[0]
	}
	return c
}

// netWritten writes a netlist as netRead reads it.
func netWritten(n impl.Net) string {
	var cells, regs, outs, checks []string
	for _, c := range n.Cells {
		cells = append(cells, cellWritten(c))
	}
	for _, r := range n.Regs {
		regs = append(regs, fmt.Sprintf("%s=%s<%d@%d", r.Name, r.Init, r.Next, r.Clock))
	}
	for _, out := range n.Outs {
		outs = append(outs, fmt.Sprint(out.Cell))
	}
	for _, check := range n.Checks {
		checks = append(checks, fmt.Sprint(check.Cell))
	}
	var parts []string
	for _, part := range [][]string{cells, regs, outs, checks} {
		parts = append(parts, strings.Join(part, " "))
	}
	return strings.Join(parts, " | ")
}

func cellWritten(c impl.Cell) string {
	switch c.Op {
	case impl.OpBits:
		return "'" + c.Bits
	case impl.OpIn:
		return fmt.Sprint("in", c.N)
	case impl.OpReg:
		return fmt.Sprint("reg", c.N)
	}
	text := opNames()[c.Op]
	if c.Op == impl.OpPart || c.Op == impl.OpSize {
		text += fmt.Sprint(c.Width)
	}
	if c.Signed {
		text += "s"
	}
	if c.Op == impl.OpPart {
		text += fmt.Sprint("@", c.N)
	}
	return text + "(" + strings.Trim(strings.ReplaceAll(fmt.Sprint(c.In), " ", ","), "[]") + ")"
}

// knotted is a netlist of which much can be left out: constants that are 0, 1 or all ones, operands that are the same, cells that others take back, registers that are fixed or alike.
func (w *wirer) knotted(cells int) impl.Net {
	w.n.Clocks = []string{"c0", "c1"}
	for width := 1; width <= 4; width++ {
		w.add(bitsCell(w.plainBits(width)))
		w.add(bitsCell(w.plainBits(width)))
	}
	for i := range 2 + w.below(4) {
		width := w.width()
		w.n.Ins = append(w.n.Ins, impl.NetPort{Name: fmt.Sprint("a", i), Width: width})
		w.add(inCell(i, width))
	}
	for i := range w.below(7) {
		width := 1 + w.below(3)
		w.n.Regs = append(w.n.Regs, impl.NetReg{Name: fmt.Sprint("s", i), Width: width, Init: w.plainBits(width), Clock: w.below(2)})
		w.add(regCell(i, width))
	}
	for range cells {
		w.knotCell()
		w.knot(len(w.n.Cells) - 1)
	}
	for i := range w.n.Regs {
		w.n.Regs[i].Next = w.of(w.n.Regs[i].Width)
	}
	for i := range w.n.Regs {
		w.knotReg(i)
	}
	for i := range 1 + w.below(4) {
		w.n.Outs = append(w.n.Outs, impl.NetOut{Name: fmt.Sprint("y", i), Cell: w.any()})
		w.n.Checks = append(w.n.Checks, impl.NetOut{Name: fmt.Sprint("k", i), Cell: w.of(1)})
	}
	return w.n
}

func (w *wirer) plainBits(width int) string {
	return []string{zeros(width), strings.Repeat("1", width), zeros(width-1) + "1"}[w.below(3)]
}

// knotCell adds a cell, of each kind more often than cell does.
func (w *wirer) knotCell() {
	a := 8 + w.below(len(w.n.Cells)-8)
	width := w.n.Cells[a].Width
	switch w.below(9) {
	case 0:
		w.cell()
	case 1:
		w.add(cellOf(impl.OpChoose, width, w.any(), a, w.of(width)))
	case 2:
		if width > 1 {
			c := cellOf(impl.OpPart, 1+w.below(width-1), a)
			c.N = w.below(width - c.Width + 1)
			w.add(c)
		}
	case 3:
		w.unary(a, width)
	case 4:
		c := cellOf(impl.OpSize, width%4+1, a)
		c.Signed = c.Width > width && w.below(2) == 0
		w.add(c)
	default:
		w.binary(a, width)
	}
}

func (w *wirer) knot(at int) {
	c := &w.n.Cells[at]
	if len(c.In) == 0 {
		return
	}
	last := len(c.In) - 1
	switch w.below(8) {
	case 0:
		if c.Op != impl.OpJoin && last > 0 && w.n.Cells[c.In[last]].Width == w.n.Cells[c.In[last-1]].Width {
			c.In[last] = c.In[last-1]
		}
	case 1:
		operand := w.below(last + 1)
		if width := w.n.Cells[c.In[operand]].Width; width <= 4 && last > 0 {
			c.In[operand] = 2*width - 1 - w.below(2)
		}
	case 2, 3:
		w.takeBack(c)
	}
}

// takeBack makes a cell one by which another one, which it may read, is taken back.
func (w *wirer) takeBack(c *impl.Cell) {
	in := w.below(len(w.n.Cells) - 1)
	from := w.n.Cells[in]
	switch {
	case from.Width == c.Width && (from.Op == impl.OpNot || from.Op == impl.OpNeg):
		*c = cellOf(from.Op, c.Width, in)
	case c.Op == impl.OpChoose && from.Width == 1:
		c.In[0] = in
	case from.Width == 1 && c.Width == 1:
		*c = cellOf(impl.OpAll+w.below(4), 1, in)
	case from.Width >= c.Width && (from.Op == impl.OpJoin || from.Op == impl.OpPart):
		low := w.below(from.Width - c.Width + 1)
		*c = cellOf(impl.OpPart, c.Width, in)
		c.N = low
	}
}

func (w *wirer) knotReg(i int) {
	r := &w.n.Regs[i]
	switch kind := w.below(6); {
	case kind == 0:
		r.Next = w.madeBehind(regCell(i, r.Width))
	case kind == 1:
		r.Next = w.madeBehind(bitsCell(r.Init))
	case kind < 4:
		// alike to another one, or behind it
		for k, other := range w.n.Regs {
			if k == i || other.Width != r.Width {
				continue
			}
			r.Init, r.Clock, r.Next = other.Init, other.Clock, other.Next
			if kind == 3 {
				r.Next = w.madeBehind(regCell(k, r.Width))
			}
			return
		}
	}
}

// madeBehind is a cell that is the same, or put behind all others.
func (w *wirer) madeBehind(c impl.Cell) int {
	for at, other := range w.n.Cells {
		if cellWritten(other) == cellWritten(c) {
			return at
		}
	}
	return w.add(c)
}
