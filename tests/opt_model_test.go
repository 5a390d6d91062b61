package tests

import (
	"fmt"
	"slices"
	"strings"

	"loop.example/g00031/impl"
)

// shaping tells the new cells of a round, one of the document's rules after the other. fired counts which of them fitted.
type shaping struct {
	cells []impl.Cell
	at    map[string]int
	fired map[string]int
}

func (s *shaping) count(rule string) { s.fired[rule]++ }

// put is rule 8.
func (s *shaping) put(c impl.Cell) int {
	key := fmt.Sprint(c.Op, c.Width, c.N, c.Signed, c.Bits, c.In)
	if at, ok := s.at[key]; ok {
		s.count("8 found")
		return at
	}
	s.at[key] = len(s.cells)
	s.cells = append(s.cells, c)
	return len(s.cells) - 1
}

func (s *shaping) putBits(bits string) int { return s.put(bitsCell(bits)) }

// bitsAt is the text of a constant, else nothing.
func (s *shaping) bitsAt(cell int) string { return s.cells[cell].Bits }

func isNone(bits string) bool { return bits != "" && !strings.Contains(bits, "1") }
func isFull(bits string) bool { return bits != "" && !strings.Contains(bits, "0") }
func isUnit(bits string) bool { return bits != "" && bits == zeros(len(bits)-1)+"1" }
func isSome(bits string) bool { return strings.Contains(bits, "1") }

func (s *shaping) shaped(c impl.Cell) int {
	for _, rule := range []func(c impl.Cell) (int, bool){s.rule1, s.rule2, s.rule3, s.rule4, s.rule5, s.rule6, s.rule7} {
		if cell, ok := rule(c); ok {
			return cell
		}
	}
	return s.put(c)
}

func (s *shaping) rule1(c impl.Cell) (int, bool) {
	n := impl.Net{}
	for _, in := range c.In {
		if s.cells[in].Op != impl.OpBits {
			return 0, false
		}
		n.Cells = append(n.Cells, s.cells[in])
	}
	if len(c.In) == 0 {
		return 0, false
	}
	c.In = rising(len(c.In))
	n.Cells = append(n.Cells, c)
	value := netValue{n: n, seen: map[int]string{}}
	s.count("1")
	return s.putBits(value.of(len(c.In))), true
}

func (s *shaping) rule2(c impl.Cell) (int, bool) {
	if c.Op < impl.OpAnd || c.Op > impl.OpMul {
		return 0, false
	}
	for i, in := range c.In {
		bits, other := s.bitsAt(in), c.In[1-i]
		switch {
		case isNone(bits) && (c.Op == impl.OpAnd || c.Op == impl.OpMul):
			s.count(fmt.Sprint("2 zero ", c.Op, i))
			return s.putBits(zeros(c.Width)), true
		case isFull(bits) && c.Op == impl.OpOr:
			s.count(fmt.Sprint("2 ones ", c.Op, i))
			return s.putBits(strings.Repeat("1", c.Width)), true
		case isFull(bits) && c.Op == impl.OpAnd, isUnit(bits) && c.Op == impl.OpMul,
			isNone(bits) && (c.Op == impl.OpOr || c.Op == impl.OpXor || c.Op == impl.OpAdd || c.Op == impl.OpSub && i == 1):
			s.count(fmt.Sprint("2 other ", c.Op, i))
			return other, true
		}
	}
	if c.In[0] != c.In[1] {
		return 0, false
	}
	switch c.Op {
	case impl.OpAnd, impl.OpOr:
		s.count(fmt.Sprint("2 same ", c.Op))
		return c.In[0], true
	case impl.OpXor, impl.OpSub:
		s.count(fmt.Sprint("2 same ", c.Op))
		return s.putBits(zeros(c.Width)), true
	}
	return 0, false
}

func (s *shaping) rule3(c impl.Cell) (int, bool) {
	if c.Op < impl.OpEq || c.Op > impl.OpEither {
		return 0, false
	}
	a, b := s.bitsAt(c.In[0]), s.bitsAt(c.In[1])
	same := c.In[0] == c.In[1]
	switch c.Op {
	case impl.OpEq, impl.OpLe, impl.OpNe, impl.OpLt:
		if same {
			s.count(fmt.Sprint("3 same ", c.Op))
			return s.putBits(letterIf(c.Op == impl.OpEq || c.Op == impl.OpLe)), true
		}
	case impl.OpShl, impl.OpShr, impl.OpSar:
		if isNone(b) {
			s.count(fmt.Sprint("3 shift ", c.Op))
			return c.In[0], true
		}
	case impl.OpBoth:
		if isNone(a) || isNone(b) {
			s.count(fmt.Sprint("3 both ", isNone(a)))
			return s.putBits("0"), true
		}
	case impl.OpEither:
		if isSome(a) || isSome(b) {
			s.count(fmt.Sprint("3 either ", isSome(a)))
			return s.putBits("1"), true
		}
	}
	return 0, false
}

func (s *shaping) rule4(c impl.Cell) (int, bool) {
	if c.Op < impl.OpNot || c.Op > impl.OpNone {
		return 0, false
	}
	a := s.cells[c.In[0]]
	switch {
	case c.Op <= impl.OpNeg && a.Op == c.Op:
		s.count(fmt.Sprint("4 twice ", c.Op))
		return a.In[0], true
	case c.Op <= impl.OpNeg || a.Width > 1:
		return 0, false
	case c.Op == impl.OpNone:
		s.count("4 none")
		return s.shaped(cellOf(impl.OpNot, 1, c.In[0])), true
	}
	s.count(fmt.Sprint("4 one bit ", c.Op))
	return c.In[0], true
}

func (s *shaping) rule5(c impl.Cell) (int, bool) {
	if c.Op != impl.OpChoose {
		return 0, false
	}
	test := s.cells[c.In[0]]
	switch {
	case test.Op == impl.OpBits:
		s.count("5 " + letterIf(isSome(test.Bits)))
		return c.In[2-numberIf(isSome(test.Bits))], true
	case c.In[1] == c.In[2]:
		s.count("5 same")
		return c.In[1], true
	case test.Op == impl.OpNone, test.Op == impl.OpNot && test.Width == 1:
		s.count(fmt.Sprint("5 turned ", test.Op))
		return s.shaped(cellOf(impl.OpChoose, c.Width, test.In[0], c.In[2], c.In[1])), true
	}
	return 0, false
}

func (s *shaping) rule6(c impl.Cell) (int, bool) {
	if c.Op == impl.OpJoin && len(c.In) == 1 {
		s.count("6 join")
		return c.In[0], true
	}
	if c.Op != impl.OpPart {
		return 0, false
	}
	a := s.cells[c.In[0]]
	part := func(of, low int) (int, bool) {
		made := cellOf(impl.OpPart, c.Width, of)
		made.N = low
		return s.shaped(made), true
	}
	switch {
	case c.Width == a.Width:
		s.count("6 all")
		return c.In[0], true
	case a.Op == impl.OpPart:
		s.count("6 part")
		return part(a.In[0], a.N+c.N)
	case a.Op == impl.OpJoin:
		// the bits of the join, from the lowest one on: which operand each is of, and where in it
		var of, low []int
		for i := len(a.In) - 1; i >= 0; i-- {
			for bit := range s.cells[a.In[i]].Width {
				of, low = append(of, i), append(low, bit)
			}
		}
		if first := of[c.N]; first == of[c.N+c.Width-1] {
			s.count(fmt.Sprint("6 within ", first))
			return part(a.In[first], low[c.N])
		}
	}
	return 0, false
}

func (s *shaping) rule7(c impl.Cell) (int, bool) {
	switch c.Op {
	case impl.OpAnd, impl.OpOr, impl.OpXor, impl.OpAdd, impl.OpMul, impl.OpEq, impl.OpNe, impl.OpBoth, impl.OpEither:
		if c.In[0] > c.In[1] {
			s.count(fmt.Sprint("7 ", c.Op))
			c.In = []int{c.In[1], c.In[0]}
			return s.shaped(c), true
		}
	}
	return 0, false
}

// roundTold is a round of a netlist that is right.
func roundTold(n impl.Net, fired map[string]int) impl.Net {
	s := &shaping{at: map[string]int{}, fired: fired}
	var made []int
	for _, c := range n.Cells {
		var in []int
		for _, operand := range c.In {
			in = append(in, made[operand])
		}
		c.In = in
		made = append(made, s.shaped(c))
	}
	n.Regs, n.Outs, n.Checks = slices.Clone(n.Regs), slices.Clone(n.Outs), slices.Clone(n.Checks)
	var ends []*int
	for i := range n.Outs {
		ends = append(ends, &n.Outs[i].Cell)
	}
	for i := range n.Checks {
		ends = append(ends, &n.Checks[i].Cell)
	}
	for i := range n.Regs {
		ends = append(ends, &n.Regs[i].Next)
	}
	for _, end := range ends {
		*end = made[*end]
	}
	turned := s.turnedRegs(n.Regs)
	for i := range s.cells {
		for k := range s.cells[i].In {
			ends = append(ends, &s.cells[i].In[k])
		}
	}
	for _, end := range ends {
		if c := s.cells[*end]; c.Op == impl.OpReg && turned[c.N] >= 0 {
			*end = turned[c.N]
		}
	}
	n.Cells = s.cells
	return tidied(n)
}

// turnedRegs has for each register what stands for its OpReg, -1 where that is itself.
func (s *shaping) turnedRegs(regs []impl.NetReg) []int {
	fixed := make([]bool, len(regs))
	for i, r := range regs {
		next := s.cells[r.Next]
		fixed[i] = next.Bits == r.Init || next.Op == impl.OpReg && next.N == i
		if fixed[i] {
			s.count("fixed " + letterIf(next.Op == impl.OpReg))
		}
	}
	var turned []int
	for i, r := range regs {
		stand := -1
		for k, other := range regs[:i] {
			if stand < 0 && !fixed[i] && !fixed[k] && other.Width == r.Width && other.Clock == r.Clock && other.Init == r.Init && other.Next == r.Next {
				s.count("alike")
				stand = s.put(regCell(k, r.Width))
			}
		}
		if fixed[i] {
			stand = s.putBits(r.Init)
		}
		turned = append(turned, stand)
	}
	return turned
}

// tidied is part (3): of cells in any order, of which none goes round.
func tidied(n impl.Net) impl.Net {
	needed := map[int]bool{}
	var need func(cell int)
	need = func(cell int) {
		if needed[cell] {
			return
		}
		needed[cell] = true
		for _, in := range n.Cells[cell].In {
			need(in)
		}
		if c := n.Cells[cell]; c.Op == impl.OpReg {
			need(n.Regs[c.N].Next)
		}
	}
	for _, out := range slices.Concat(n.Outs, n.Checks) {
		need(out.Cell)
	}
	renumbered := make([]int, len(n.Regs))
	var regs []impl.NetReg
	for i, r := range n.Regs {
		renumbered[i] = len(regs)
		for cell := range needed {
			if c := n.Cells[cell]; c.Op == impl.OpReg && c.N == i {
				regs = append(regs, r)
				break
			}
		}
	}
	var cells []impl.Cell
	numbers, met := map[int]int{}, map[string]int{}
	var number func(cell int) int
	number = func(cell int) int {
		if at, ok := numbers[cell]; ok {
			return at
		}
		c := n.Cells[cell]
		var in []int
		for _, operand := range c.In {
			in = append(in, number(operand))
		}
		if c.In = in; c.Op == impl.OpReg {
			c.N = renumbered[c.N]
		}
		key := fmt.Sprint(c.Op, c.Width, c.N, c.Signed, c.Bits, c.In)
		if _, ok := met[key]; !ok {
			met[key] = len(cells)
			cells = append(cells, c)
		}
		numbers[cell] = met[key]
		return met[key]
	}
	for i := range n.Outs {
		n.Outs[i].Cell = number(n.Outs[i].Cell)
	}
	for i := range n.Checks {
		n.Checks[i].Cell = number(n.Checks[i].Cell)
	}
	for i := range regs {
		regs[i].Next = number(regs[i].Next)
	}
	n.Cells, n.Regs = cells, regs
	return n
}

// optimisedTold says what Optimise must answer, and how many rounds it takes.
func optimisedTold(n impl.Net, fired map[string]int) (impl.Net, int, int) {
	if !netTold(n) {
		return impl.Net{}, impl.ErrBad, 0
	}
	for round := 1; ; round++ {
		made := roundTold(n, fired)
		if netWritten(made) == netWritten(n) || round == 60 {
			return made, impl.OK, round
		}
		n = made
	}
}

// retimableTold says what Retimable must answer.
func retimableTold(n impl.Net) []int {
	var all []int
	if !netTold(n) {
		return nil
	}
	for at, c := range n.Cells {
		clocks := map[int]bool{}
		right := c.Op != impl.OpBits && c.Op != impl.OpIn && c.Op != impl.OpReg
		for _, in := range c.In {
			from := n.Cells[in]
			right = right && (from.Op == impl.OpBits || from.Op == impl.OpReg)
			if from.Op == impl.OpReg {
				clocks[n.Regs[from.N].Clock] = true
			}
		}
		if right && len(clocks) == 1 {
			all = append(all, at)
		}
	}
	return all
}

// retimedTold says what Retime must answer.
func retimedTold(n impl.Net, at int) (impl.Net, int) {
	if !netTold(n) {
		return impl.Net{}, impl.ErrBad
	}
	if !slices.Contains(retimableTold(n), at) {
		return impl.Net{}, impl.ErrKind
	}
	if len(n.Regs)+1 > 256 || len(n.Cells)+1 > 4096 {
		return impl.Net{}, impl.ErrMany
	}
	reg := impl.NetReg{Name: fmt.Sprintf("r%d", at), Width: n.Cells[at].Width, Next: len(n.Cells)}
	for _, r := range n.Regs {
		if r.Name == reg.Name {
			return impl.Net{}, impl.ErrTwice
		}
	}
	begin := netValue{n: n, seen: map[int]string{}}
	moved := n.Cells[at]
	moved.In = nil
	for _, r := range n.Regs {
		begin.regs = append(begin.regs, r.Init)
	}
	for _, in := range n.Cells[at].In {
		if from := n.Cells[in]; from.Op == impl.OpReg {
			in, reg.Clock = n.Regs[from.N].Next, n.Regs[from.N].Clock
		}
		moved.In = append(moved.In, in)
	}
	reg.Init = begin.of(at)
	n.Cells = append(slices.Clone(n.Cells), moved)
	n.Cells[at] = regCell(len(n.Regs), reg.Width)
	n.Regs = append(slices.Clone(n.Regs), reg)
	return n, impl.OK
}
