package tests

import (
	"slices"

	"loop.example/g00031/impl"
)

// netOfCode is the netlist that a code is like: a cell for each instruction, whose operands are the instructions that put last into the slots that it reads. False where there is none, or a field is not 0 that must be; the cells may still be wrong.
func netOfCode(c impl.Code) (impl.Net, bool) {
	var n impl.Net
	for _, width := range c.Ins {
		n.Ins = append(n.Ins, impl.NetPort{Width: width})
	}
	n.Clocks = make([]string, c.Clocks)
	last := map[int]int{}
	cellIn := func(slot int) int {
		if at, ok := last[slot]; ok {
			return at
		}
		return -1
	}
	for i, init := range c.Inits {
		n.Regs = append(n.Regs, impl.NetReg{Width: len(init), Init: init, Clock: c.Ticks[i]})
	}
	for at, i := range c.Instrs {
		if i.Dst < 0 || i.Dst >= c.Slots {
			return n, false
		}
		cell := impl.Cell{Op: i.Op, Width: i.Width, N: i.N, Signed: i.Signed, Bits: i.Bits}
		takes := slotsTaken(i.Op)
		for k, slot := range []int{i.A, i.B, i.C} {
			if k < takes {
				cell.In = append(cell.In, cellIn(slot))
			} else if slot != 0 {
				return n, false
			}
		}
		n.Cells = append(n.Cells, cell)
		last[i.Dst] = at
	}
	for i, slot := range c.Nexts {
		n.Regs[i].Next = cellIn(slot)
	}
	for _, slot := range c.Outs {
		n.Outs = append(n.Outs, impl.NetOut{Cell: cellIn(slot)})
	}
	for _, slot := range c.Checks {
		n.Checks = append(n.Checks, impl.NetOut{Cell: cellIn(slot)})
	}
	return n, true
}

func slotsTaken(op int) int {
	switch {
	case op >= impl.OpAnd && op <= impl.OpEither || op == impl.OpJoin:
		return 2
	case op >= impl.OpNot && op <= impl.OpNone || op == impl.OpPart || op == impl.OpSize:
		return 1
	case op == impl.OpChoose:
		return 3
	}
	return 0
}

// codeTold says what CodeOK must answer.
func codeTold(c impl.Code) bool {
	for _, most := range [][2]int{{len(c.Instrs), 16384}, {c.Slots, 16384}, {len(c.Ins), 256}, {len(c.Inits), 256}, {c.Clocks, 8}, {len(c.Outs), 256}, {len(c.Checks), 256}} {
		if most[0] < 0 || most[0] > most[1] {
			return false
		}
	}
	if len(c.Ticks) != len(c.Inits) || len(c.Nexts) != len(c.Inits) {
		return false
	}
	n, ok := netOfCode(c)
	for _, in := range n.Ins {
		ok = ok && in.Width >= 1 && in.Width <= 64
	}
	for _, r := range n.Regs {
		ok = ok && impl.BitsOK(r.Init) && known(r.Init) && r.Clock >= 0 && r.Clock < c.Clocks && r.Next >= 0 && n.Cells[r.Next].Width == r.Width
	}
	for at := range n.Cells {
		ok = ok && cellTold(n, at)
	}
	for _, out := range n.Outs {
		ok = ok && out.Cell >= 0
	}
	for _, check := range n.Checks {
		ok = ok && check.Cell >= 0 && n.Cells[check.Cell].Width == 1
	}
	return ok
}

func runCodeTold(c impl.Code, steps []impl.Step) ([]impl.Row, int) {
	if len(steps) > 4096 {
		return nil, impl.ErrLong
	}
	if !codeTold(c) {
		return nil, impl.ErrBad
	}
	n, _ := netOfCode(c)
	return rowsTold(n, steps)
}

// codePiece is a value that an instruction gives: a cell, or the first parts of a join, so many of them.
type codePiece struct{ cell, parts int }

// codeMove is an instruction by what it gives and reads.
type codeMove struct {
	gives codePiece
	reads []codePiece
	instr impl.Instr
}

// coding tells the instructions of a netlist as the chapter does.
type coding struct {
	n     impl.Net
	moves []codeMove
	ends  []codePiece
	last  map[codePiece]int // the last move that reads it
}

// whole is the value of a cell, of a join of one cell that cell's.
func (c *coding) whole(cell int) codePiece {
	if in := c.n.Cells[cell].In; c.n.Cells[cell].Op == impl.OpJoin && len(in) == 1 {
		return c.whole(in[0])
	}
	return codePiece{cell, 0}
}

func (c *coding) isNeeded(needed map[int]bool, cell int) {
	if needed[cell] {
		return
	}
	needed[cell] = true
	for _, in := range c.n.Cells[cell].In {
		c.isNeeded(needed, in)
	}
}

func codingOf(n impl.Net) *coding {
	c := &coding{n: n}
	needed := map[int]bool{}
	end := func(cell int) {
		c.ends = append(c.ends, c.whole(cell))
		c.isNeeded(needed, cell)
	}
	for _, out := range n.Outs {
		end(out.Cell)
	}
	for _, check := range n.Checks {
		end(check.Cell)
	}
	for _, r := range n.Regs {
		end(r.Next)
	}
	for at, cell := range n.Cells {
		if needed[at] && cell.Op == impl.OpJoin {
			c.join(at, cell)
		} else if needed[at] {
			move := codeMove{gives: codePiece{at, 0}, instr: impl.Instr{Op: cell.Op, Width: cell.Width, N: cell.N, Signed: cell.Signed, Bits: cell.Bits}}
			for _, in := range cell.In {
				move.reads = append(move.reads, c.whole(in))
			}
			c.moves = append(c.moves, move)
		}
	}
	return c
}

func (c *coding) join(at int, cell impl.Cell) {
	width := c.n.Cells[cell.In[0]].Width
	for i := 1; i < len(cell.In); i++ {
		width += c.n.Cells[cell.In[i]].Width
		move := codeMove{gives: codePiece{at, i + 1}, reads: []codePiece{{at, i}, c.whole(cell.In[i])}, instr: impl.Instr{Op: impl.OpJoin, Width: width}}
		if i == 1 {
			move.reads[0] = c.whole(cell.In[0])
		}
		if i == len(cell.In)-1 {
			move.gives.parts = 0
		}
		c.moves = append(c.moves, move)
	}
}

// neededBehind tells whether a value is needed behind a move, by another one or at the end.
func (c *coding) neededBehind(value codePiece, at int) bool {
	if c.last == nil {
		c.last = map[codePiece]int{}
		for number, move := range c.moves {
			for _, read := range move.reads {
				c.last[read] = number
			}
		}
		for _, end := range c.ends {
			c.last[end] = len(c.moves)
		}
	}
	return c.last[value] > at
}

// compilingTold says what Compile must answer.
func compilingTold(n impl.Net) (impl.Code, int) {
	if !netTold(n) {
		return impl.Code{}, impl.ErrBad
	}
	c := codingOf(n)
	if len(c.moves) > 16384 {
		return impl.Code{}, impl.ErrMany
	}
	code := impl.Code{Clocks: len(n.Clocks)}
	var slots []codePiece // what is in each, of those that were used
	where := func(value codePiece) int { return slices.Index(slots, value) }
	for at, move := range c.moves {
		i := move.instr
		for k, field := range []*int{&i.A, &i.B, &i.C}[:len(move.reads)] {
			*field = where(move.reads[k])
		}
		for i.Dst < len(slots) && c.neededBehind(slots[i.Dst], at) {
			i.Dst++
		}
		if i.Dst == len(slots) {
			slots = append(slots, move.gives)
		}
		slots[i.Dst] = move.gives
		code.Instrs = append(code.Instrs, i)
	}
	code.Slots = len(slots)
	for _, in := range n.Ins {
		code.Ins = append(code.Ins, in.Width)
	}
	for _, r := range n.Regs {
		code.Inits, code.Ticks, code.Nexts = append(code.Inits, r.Init), append(code.Ticks, r.Clock), append(code.Nexts, where(c.whole(r.Next)))
	}
	for _, out := range n.Outs {
		code.Outs = append(code.Outs, where(c.whole(out.Cell)))
	}
	for _, check := range n.Checks {
		code.Checks = append(code.Checks, where(c.whole(check.Cell)))
	}
	return code, impl.OK
}
