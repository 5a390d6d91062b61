package tests

import (
	"slices"
	"strconv"

	"loop.example/g00031/impl"
)

// netTold says what NetOK must answer. A cell is right if the Ex that it is like is right in a flat design whose ins are its operands.
func netTold(n impl.Net) bool {
	if len(n.Cells) > 4096 || len(n.Regs) > 256 || len(n.Clocks) > 8 || len(n.Ins) > 256 || len(n.Outs) > 256 || len(n.Checks) > 256 {
		return false
	}
	var ins, regs, outs, checks []string
	for _, in := range n.Ins {
		ins = append(ins, in.Name)
		if in.Width < 1 || in.Width > 64 {
			return false
		}
	}
	for i := range n.Cells {
		if !cellTold(n, i) {
			return false
		}
	}
	widthOf := func(cell int) int {
		if cell < 0 || cell >= len(n.Cells) {
			return -1
		}
		return n.Cells[cell].Width
	}
	for _, r := range n.Regs {
		regs = append(regs, r.Name)
		if !impl.BitsOK(r.Init) || !known(r.Init) || len(r.Init) != r.Width || r.Clock < 0 || r.Clock >= len(n.Clocks) || widthOf(r.Next) != r.Width {
			return false
		}
	}
	for _, out := range n.Outs {
		outs = append(outs, out.Name)
		if widthOf(out.Cell) < 0 {
			return false
		}
	}
	for _, check := range n.Checks {
		checks = append(checks, check.Name)
		if widthOf(check.Cell) != 1 {
			return false
		}
	}
	for _, names := range [][]string{slices.Concat(ins, n.Clocks), regs, outs, checks} {
		for i, name := range names {
			if name == "" || len(name) > 1000 || slices.Contains(names[:i], name) {
				return false
			}
		}
	}
	return true
}

func cellTold(n impl.Net, at int) bool {
	c := n.Cells[at]
	width := -1
	switch {
	case c.Op == impl.OpIn && c.N >= 0 && c.N < len(n.Ins):
		width = n.Ins[c.N].Width
	case c.Op == impl.OpReg && c.N >= 0 && c.N < len(n.Regs):
		width = n.Regs[c.N].Width
	}
	if width >= 0 {
		return c.Width == width && width >= 1 && width <= 64 && len(c.In) == 0 && !c.Signed && c.Bits == ""
	}
	if c.Op == impl.OpDiv || c.Op == impl.OpRem || c.Op == impl.OpSame || c.Op < 1 || c.Op > impl.OpBits || c.Width < 1 || c.Width > 64 || !known(c.Bits) || len(c.In) > 64 {
		return false
	}
	var f impl.Flat
	e := impl.Ex{Op: c.Op, Width: c.Width, N: c.N, Signed: c.Signed, Bits: c.Bits}
	for i, in := range c.In {
		if in < 0 || in >= at {
			return false
		}
		width := n.Cells[in].Width
		f.Signals = append(f.Signals, impl.Signal{Name: strconv.Itoa(i), Kind: impl.SigIn, Width: width, Init: zeros(width)})
		e.Kids = append(e.Kids, sigEx(i, width))
	}
	f.Procs = []impl.Proc{{Kind: impl.ProcCheck, Clock: -1, Name: "c", Body: impl.St{Kind: impl.StCheck, Exs: []impl.Ex{e}}}}
	return flatTold(f)
}

// netValue is what a cell is, worked out anew from what it hangs on.
type netValue struct {
	n    impl.Net
	ins  []string
	regs []string
	seen map[int]string
}

func (v *netValue) of(cell int) string {
	if bits, ok := v.seen[cell]; ok {
		return bits
	}
	c := v.n.Cells[cell]
	var in []string
	for _, operand := range c.In {
		in = append(in, v.of(operand))
	}
	bits := ""
	switch {
	case c.Op == impl.OpIn:
		bits = v.ins[c.N]
	case c.Op == impl.OpReg:
		bits = v.regs[c.N]
	case c.Op == impl.OpBits:
		bits = c.Bits
	case c.Op == impl.OpChoose:
		bits = in[1]
		if !slices.Contains([]byte(in[0]), '1') {
			bits = in[2]
		}
	case c.Op == impl.OpJoin:
		for _, part := range in {
			bits += part
		}
	case c.Op == impl.OpPart:
		bits = in[0][len(in[0])-c.N-c.Width : len(in[0])-c.N]
	case c.Op == impl.OpSize:
		bits = impl.Resize(in[0], c.Width, c.Signed)
	case len(in) == 1:
		bits = unaryTold(c.Op, in[0])
	default:
		bits = binaryTold(c.Op, c.Signed, in[0], in[1])
	}
	v.seen[cell] = bits
	return bits
}

func netRunTold(n impl.Net, steps []impl.Step) ([]impl.Row, int) {
	if len(steps) > 4096 {
		return nil, impl.ErrLong
	}
	if !netTold(n) {
		return nil, impl.ErrBad
	}
	return rowsTold(n, steps)
}

// rowsTold is of a netlist that is right, or of more cells than it may have.
func rowsTold(n impl.Net, steps []impl.Step) ([]impl.Row, int) {
	for _, s := range steps {
		if len(s.Ins) != len(n.Ins) || len(s.Ticks) != len(n.Clocks) {
			return nil, impl.ErrBad
		}
		for i, bits := range s.Ins {
			if len(bits) != n.Ins[i].Width || !impl.BitsOK(bits) || !known(bits) {
				return nil, impl.ErrBad
			}
		}
	}
	var regs []string
	for _, r := range n.Regs {
		regs = append(regs, r.Init)
	}
	var rows []impl.Row
	for _, s := range steps {
		ahead := netValue{n, s.Ins, regs, map[int]string{}}
		regs = slices.Clone(regs)
		for i, r := range n.Regs {
			if s.Ticks[r.Clock] {
				regs[i] = ahead.of(r.Next)
			}
		}
		behind := netValue{n, s.Ins, regs, map[int]string{}}
		row := impl.Row{Regs: regs}
		for _, out := range n.Outs {
			row.Outs = append(row.Outs, behind.of(out.Cell))
		}
		for _, check := range n.Checks {
			row.Checks = append(row.Checks, behind.of(check.Cell))
		}
		rows = append(rows, row)
	}
	return rows, impl.OK
}
