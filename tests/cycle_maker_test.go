package tests

import (
	"fmt"
	"slices"

	"loop.example/g00031/impl"
)

// wirer makes netlists of all kinds of cells, of which many are read more than once and some by nobody.
type wirer struct {
	choices
	n impl.Net
}

func wirerOf(seed uint64) *wirer {
	return &wirer{choices: choices{seed: seed*0x9e3779b97f4a7c15 | 1}}
}

func (w *wirer) bits(width int) string {
	return impl.BitsOf(int(stirred(uint64(w.below(1<<30)+1))), width)
}

func (w *wirer) width() int {
	if w.below(12) == 0 {
		return 64
	}
	return 1 + w.below(4)
}

func (w *wirer) add(c impl.Cell) int {
	w.n.Cells = append(w.n.Cells, c)
	return len(w.n.Cells) - 1
}

// any is a cell, more often one of the last.
func (w *wirer) any() int {
	count := len(w.n.Cells)
	if w.below(2) == 0 {
		return count - 1 - w.below(min(count, 6))
	}
	return w.below(count)
}

// of is a cell of that width; a constant if there is none.
func (w *wirer) of(width int) int {
	at := w.any()
	for range w.n.Cells {
		if w.n.Cells[at].Width == width {
			return at
		}
		at = (at + 1) % len(w.n.Cells)
	}
	return w.add(bitsCell(w.bits(width)))
}

func (w *wirer) cell() {
	kind := w.below(11)
	a := w.any()
	width := w.n.Cells[a].Width
	switch kind {
	case 0:
		w.add(bitsCell(w.bits(w.width())))
	case 1:
		if len(w.n.Ins) > 0 {
			in := w.below(len(w.n.Ins))
			w.add(inCell(in, w.n.Ins[in].Width))
		}
	case 2:
		if len(w.n.Regs) > 0 {
			reg := w.below(len(w.n.Regs))
			w.add(regCell(reg, w.n.Regs[reg].Width))
		}
	case 3:
		w.add(cellOf(impl.OpChoose, width, w.any(), a, w.of(width)))
	case 4, 5:
		w.join()
	case 6:
		c := cellOf(impl.OpPart, 1+w.below(width), a)
		c.N = w.below(width - c.Width + 1)
		w.add(c)
	case 7:
		c := cellOf(impl.OpSize, w.width(), a)
		c.Signed = c.Width > width && w.below(2) == 0
		if c.Width != width {
			w.add(c)
		}
	case 8:
		w.unary(a, width)
	default:
		w.binary(a, width)
	}
}

func (w *wirer) unary(a, width int) {
	op := impl.OpNot + w.below(6)
	if op > impl.OpNeg {
		width = 1
	}
	w.add(cellOf(op, width, a))
}

func (w *wirer) binary(a, width int) {
	op := impl.OpAnd + w.below(impl.OpEither)
	c := cellOf(op, width, a)
	switch op {
	case impl.OpDiv, impl.OpRem, impl.OpSame:
		return
	case impl.OpShl, impl.OpShr, impl.OpSar:
		c.In = append(c.In, w.any())
	case impl.OpBoth, impl.OpEither:
		c.In, c.Width = append(c.In, w.any()), 1
	case impl.OpEq, impl.OpNe, impl.OpLt, impl.OpLe:
		c.In, c.Width, c.Signed = append(c.In, w.of(width)), 1, op >= impl.OpLt && w.below(2) == 0
	default:
		c.In = append(c.In, w.of(width))
	}
	w.add(c)
}

// join has one operand or more, some of them the same.
func (w *wirer) join() {
	c := cellOf(impl.OpJoin, 0)
	for range 1 + w.below(5) {
		in := w.any()
		if len(c.In) > 0 && w.below(4) == 0 {
			in = c.In[w.below(len(c.In))]
		}
		if c.Width+w.n.Cells[in].Width <= 64 {
			c.In, c.Width = append(c.In, in), c.Width+w.n.Cells[in].Width
		}
	}
	w.add(c)
}

func (w *wirer) net(cells int) impl.Net {
	for i := range w.below(4) {
		w.n.Ins = append(w.n.Ins, impl.NetPort{Name: fmt.Sprint("a", i), Width: w.width()})
	}
	for i := range 1 + w.below(2) {
		w.n.Clocks = append(w.n.Clocks, fmt.Sprint("c", i))
	}
	for i := range w.below(4) {
		width := w.width()
		w.n.Regs = append(w.n.Regs, impl.NetReg{Name: fmt.Sprint("r", i), Width: width, Clock: w.below(len(w.n.Clocks)), Init: w.bits(width)})
	}
	w.add(bitsCell(w.bits(w.width())))
	for len(w.n.Cells) < cells {
		w.cell()
	}
	for i := range w.n.Regs {
		w.n.Regs[i].Next = w.of(w.n.Regs[i].Width)
	}
	for i := range w.below(4) {
		w.n.Outs = append(w.n.Outs, impl.NetOut{Name: fmt.Sprint("y", i), Cell: w.any()})
		if w.below(2) == 0 {
			w.n.Checks = append(w.n.Checks, impl.NetOut{Name: fmt.Sprint("k", i), Cell: w.of(1)})
		}
	}
	return w.n
}

// otherSlots is the same code with its slots exchanged and some more.
func otherSlots(c *choices, code impl.Code) impl.Code {
	code.Slots += c.below(5)
	places := mixed(c, rising(code.Slots))
	moved := func(slots []int) []int {
		var all []int
		for _, slot := range slots {
			all = append(all, places[slot])
		}
		return all
	}
	code.Nexts, code.Outs, code.Checks = moved(code.Nexts), moved(code.Outs), moved(code.Checks)
	code.Instrs = slices.Clone(code.Instrs)
	for at := range code.Instrs {
		i := &code.Instrs[at]
		i.Dst = places[i.Dst]
		for _, field := range []*int{&i.A, &i.B, &i.C}[:slotsTaken(i.Op)] {
			*field = places[*field]
		}
	}
	return code
}

// codePieces are all numbers, texts and truths of a code that can be changed.
func codePieces(c *impl.Code) (numbers []*int, texts []*string, signs []*bool) {
	numbers = []*int{&c.Slots, &c.Clocks}
	for _, list := range [][]int{c.Ins, c.Ticks, c.Nexts, c.Outs, c.Checks} {
		for i := range list {
			numbers = append(numbers, &list[i])
		}
	}
	for i := range c.Inits {
		texts = append(texts, &c.Inits[i])
	}
	for at := range c.Instrs {
		i := &c.Instrs[at]
		numbers = append(numbers, &i.Op, &i.Dst, &i.A, &i.B, &i.C, &i.N, &i.Width)
		texts, signs = append(texts, &i.Bits), append(signs, &i.Signed)
	}
	return numbers, texts, signs
}

// bentCode changes one piece of a code.
func bentCode(c *choices, code *impl.Code) {
	numbers, texts, signs := codePieces(code)
	kind := c.below(8)
	switch {
	case kind == 0 && len(texts) > 0:
		text := texts[c.below(len(texts))]
		*text = c.oneOf("", *text+"0", "x", "0", *texts[c.below(len(texts))])
	case kind == 1 && len(signs) > 0:
		sign := signs[c.below(len(signs))]
		*sign = !*sign
	case kind == 2 && len(code.Instrs) > 0:
		code.Instrs[c.below(len(code.Instrs))] = code.Instrs[c.below(len(code.Instrs))]
	case kind == 3 && len(code.Instrs) > 0:
		at := c.below(len(code.Instrs))
		code.Instrs = slices.Delete(code.Instrs, at, at+1)
	case kind == 4:
		lists := []*[]int{&code.Ins, &code.Ticks, &code.Nexts, &code.Outs, &code.Checks}
		list := lists[c.below(len(lists))]
		*list = append(*list, c.below(3))
	default:
		*numbers[c.below(len(numbers))] += []int{1, -1, 2, -2, 31}[c.below(5)]
	}
}
