package tests

import (
	"fmt"
	"slices"
	"strings"
	"testing"

	"loop.example/g00031/impl"
)

// holdCompiled holds a code against what is told of it.
func holdCompiled(t *testing.T, n impl.Net) (impl.Code, int) {
	t.Helper()
	got, code := impl.Compile(n)
	want, wantCode := compilingTold(n)
	if code != wantCode || codeShown(got) != codeShown(want) {
		t.Fatalf("%s\ncode %d, want %d\n%s, want\n%s", netShown(n), code, wantCode, codeShown(got), codeShown(want))
	}
	if code != impl.OK {
		return got, code
	}
	if !impl.CodeOK(got) || !codeTold(got) {
		t.Fatalf("%s\nis compiled to no code:\n%s", netShown(n), codeShown(got))
	}
	holdSlots(t, n, got)
	return got, code
}

// holdSlots: no two values that are needed at one time share a slot. It follows what is in each slot; a value that was put over by another one is missed where it is read.
func holdSlots(t *testing.T, n impl.Net, c impl.Code) {
	t.Helper()
	told := codingOf(n)
	if len(c.Instrs) != len(told.moves) {
		t.Fatalf("%s\n%d instructions, want %d", netShown(n), len(c.Instrs), len(told.moves))
	}
	slots := make([]codePiece, c.Slots)
	used := make([]bool, c.Slots)
	holds := func(slot int, value codePiece) {
		if !used[slot] || slots[slot] != value {
			t.Fatalf("%s\n%s\nslot %d holds %v where %v is needed", netShown(n), codeShown(c), slot, slots[slot], value)
		}
	}
	for at, move := range told.moves {
		i := c.Instrs[at]
		for k, value := range move.reads {
			holds([]int{i.A, i.B, i.C}[k], value)
		}
		if used[i.Dst] && told.neededBehind(slots[i.Dst], at) {
			t.Fatalf("%s\n%s\ninstruction %d puts over what is needed", netShown(n), codeShown(c), at)
		}
		for slot := range i.Dst {
			if !used[slot] || !told.neededBehind(slots[slot], at) {
				t.Fatalf("%s\n%s\ninstruction %d: slot %d is free", netShown(n), codeShown(c), at, slot)
			}
		}
		slots[i.Dst], used[i.Dst] = move.gives, true
	}
	for i, slot := range slices.Concat(c.Outs, c.Checks, c.Nexts) {
		holds(slot, told.ends[i])
	}
	if slices.Contains(used, false) {
		t.Fatalf("%s\n%s\na slot that is not used", netShown(n), codeShown(c))
	}
}

// instrShown writes an instruction: its slot, its Op, its width, an s if it is signed, the slots that it reads.
func instrShown(i impl.Instr) string {
	at := fmt.Sprintf("%d=", i.Dst)
	switch i.Op {
	case impl.OpIn:
		return at + fmt.Sprintf("in%d:%d", i.N, i.Width)
	case impl.OpReg:
		return at + fmt.Sprintf("reg%d:%d", i.N, i.Width)
	case impl.OpBits:
		return at + "'" + i.Bits
	}
	at += opNames()[i.Op]
	if i.Op == impl.OpPart {
		at += fmt.Sprint(i.N)
	}
	at += fmt.Sprint(":", i.Width)
	if i.Signed {
		at += "s"
	}
	var reads []string
	for _, slot := range []int{i.A, i.B, i.C}[:slotsTaken(i.Op)] {
		reads = append(reads, fmt.Sprint(slot))
	}
	return at + "(" + strings.Join(reads, ",") + ")"
}

// codeWritten writes a code: its instructions, then Nexts, Outs, Checks and how many slots there are.
func codeWritten(c impl.Code) string {
	var all []string
	for _, i := range c.Instrs {
		all = append(all, instrShown(i))
	}
	return strings.Join(all, " ") + fmt.Sprintf(" %v%v%v%d", c.Nexts, c.Outs, c.Checks, c.Slots)
}

// outNet has ins a of 4 bits, b of 4, e of 1 and a register of 4; its outs are those cells behind in a, in b, in e and the register, which are cells 0 to 3.
func outNet(outs []int, cells ...impl.Cell) impl.Net {
	n := impl.Net{
		Ins:    []impl.NetPort{{Name: "a", Width: 4}, {Name: "b", Width: 4}, {Name: "e", Width: 1}},
		Clocks: []string{"clk"},
		Cells:  append([]impl.Cell{inCell(0, 4), inCell(1, 4), inCell(2, 1), regCell(0, 4)}, cells...),
	}
	n.Regs = []impl.NetReg{{Name: "r", Width: 4, Init: "0011", Next: 3}}
	for i, cell := range outs {
		n.Outs = append(n.Outs, impl.NetOut{Name: fmt.Sprint("y", i), Cell: cell})
	}
	return n
}

// without has no register.
func without(n impl.Net) impl.Net {
	n.Regs, n.Cells = nil, slices.Clone(n.Cells)
	n.Cells[3] = bitsCell("1001")
	return n
}

func TestCompile(t *testing.T) {
	const a, b, e, r = 0, 1, 2, 3
	and, or, xor, not, join := impl.OpAnd, impl.OpOr, impl.OpXor, impl.OpNot, impl.OpJoin
	ends := outNet([]int{a, 5}, cellOf(and, 4, a, b), cellOf(or, 4, 4, r), cellOf(impl.OpEq, 1, a, 5), cellOf(xor, 4, 5, b))
	ends.Checks = []impl.NetOut{{Name: "c", Cell: 6}, {Name: "d", Cell: e}}
	ends.Regs[0].Next = 7
	part := cellOf(impl.OpPart, 2, a)
	part.N = 1
	sized := cellOf(impl.OpSize, 9, 4)
	sized.Signed = true
	less := cellOf(impl.OpLt, 1, a, b)
	less.Signed = true
	for what, c := range map[string]struct {
		n    impl.Net
		want string
	}{
		"nothing":                           {impl.Net{}, " [][][]0"},
		"nothing that is needed":            {impl.Net{Cells: []impl.Cell{bitsCell("0")}, Clocks: []string{"c"}}, " [][][]0"},
		"a register alone":                  {outNet(nil), "0=reg0:4 [0][][]1"},
		"an in alone":                       {without(outNet([]int{b})), "0=in1:4 [][0][]1"},
		"an in twice":                       {without(outNet([]int{b, b})), "0=in1:4 [][0 0][]1"},
		"ins in their order":                {without(outNet([]int{e, b, a})), "0=in0:4 1=in1:4 2=in2:1 [][2 1 0][]3"},
		"the slot of one that is read last": {without(outNet([]int{4}, cellOf(not, 4, a))), "0=in0:4 0=not:4(0) [][0][]1"},
		"the lower of two":                  {without(outNet([]int{4}, cellOf(and, 4, b, a))), "0=in0:4 1=in1:4 0=and:4(1,0) [][0][]2"},
		"the higher of two":                 {without(outNet([]int{4, a}, cellOf(and, 4, a, b))), "0=in0:4 1=in1:4 1=and:4(0,1) [][1 0][]2"},
		"neither of two":                    {without(outNet([]int{b, 4, a}, cellOf(and, 4, a, b))), "0=in0:4 1=in1:4 2=and:4(0,1) [][1 2 0][]3"},
		"one that is read twice at once":    {without(outNet([]int{5, 6}, cellOf(and, 4, a, a), cellOf(or, 4, 4, b), cellOf(not, 4, 4))), "0=in0:4 1=in1:4 0=and:4(0,0) 1=or:4(0,1) 0=not:4(0) [][1 0][]2"},
		"twice at once, then two more":      {without(outNet([]int{4, 5, 6}, cellOf(xor, 1, e, e), bitsCell("1"), bitsCell("0"))), "0=in2:1 0=xor:1(0,0) 1='1 2='0 [][0 1 2][]3"},
		"three of one slot":                 {without(outNet([]int{4, 5}, cellOf(impl.OpChoose, 4, a, a, a), bitsCell("0"))), "0=in0:4 0=choose:4(0,0,0) 1='0 [][0 1][]2"},
		"a slot that was free for long":     {without(outNet([]int{5, 8}, cellOf(and, 4, a, b), cellOf(or, 4, 4, r), bitsCell("1"), bitsCell("0"), cellOf(join, 2, 6, 7))), "0=in0:4 1=in1:4 2='1001 0=and:4(0,1) 0=or:4(0,2) 1='1 2='0 1=join:2(1,2) [][0 1][]3"},
		"the lowest of several":             {without(outNet([]int{5, 6}, cellOf(impl.OpChoose, 4, e, a, b), cellOf(xor, 4, r, r), cellOf(not, 4, 4))), "0=in0:4 1=in1:4 2=in2:1 3='1001 0=choose:4(2,0,1) 1=xor:4(3,3) 0=not:4(0) [][1 0][]4"},
		"cells that nothing needs":          {without(outNet([]int{6}, cellOf(and, 4, a, b), cellOf(not, 4, 4), cellOf(not, 4, a), cellOf(impl.OpNeg, 4, 6))), "0=in0:4 0=not:4(0) [][0][]1"},
		"what is not needed reads nothing":  {without(outNet([]int{4, 6}, cellOf(not, 4, a), cellOf(and, 4, a, b), bitsCell("1"))), "0=in0:4 0=not:4(0) 1='1 [][0 1][]2"},
		"the same cell twice":               {without(outNet([]int{4, 5}, cellOf(not, 4, a), cellOf(not, 4, a))), "0=in0:4 1=not:4(0) 0=not:4(0) [][1 0][]2"},
		"outs, checks and Nexts":            {ends, "0=in0:4 1=in1:4 2=in2:1 3=reg0:4 4=and:4(0,1) 3=or:4(4,3) 4=eq:1(0,3) 1=xor:4(3,1) [1][0 3][4 2]5"},
		"fields of a cell":                  {without(outNet([]int{6, 7}, part, less, sized, cellOf(impl.OpSar, 4, b, 5))), "0=in0:4 1=in1:4 2=part1:2(0) 0=lt:1s(0,1) 2=size:9s(2) 0=sar:4(1,0) [][2 0][]3"},
		"a join of one":                     {without(outNet([]int{5}, cellOf(join, 4, a), cellOf(not, 4, 4))), "0=in0:4 0=not:4(0) [][0][]1"},
		"a join of one that is an out":      {without(outNet([]int{4, 5}, cellOf(join, 4, a), cellOf(not, 4, a))), "0=in0:4 1=not:4(0) [][0 1][]2"},
		"a join of one that is read again":  {without(outNet([]int{6}, cellOf(join, 4, a), cellOf(not, 4, a), cellOf(and, 4, 5, 4))), "0=in0:4 1=not:4(0) 0=and:4(1,0) [][0][]2"},
		"a join of one of one":              {without(outNet([]int{5, 6}, cellOf(join, 4, a), cellOf(join, 4, 4), cellOf(not, 4, 5))), "0=in0:4 1=not:4(0) [][0 1][]2"},
		"both of a join of one":             {without(outNet([]int{5}, cellOf(join, 4, a), cellOf(and, 4, 4, a))), "0=in0:4 0=and:4(0,0) [][0][]1"},
		"a join of one that is not needed":  {without(outNet([]int{5, 6}, cellOf(join, 4, a), cellOf(not, 4, b), cellOf(not, 4, a))), "0=in0:4 1=in1:4 1=not:4(1) 0=not:4(0) [][1 0][]2"},
		"a join of a join of one":           {without(outNet([]int{5}, cellOf(join, 4, a), cellOf(join, 9, b, 4, e))), "0=in0:4 1=in1:4 2=in2:1 0=join:8(1,0) 0=join:9(0,2) [][0][]3"},
		"a join of two":                     {without(outNet([]int{4}, cellOf(join, 5, a, e))), "0=in0:4 1=in2:1 0=join:5(0,1) [][0][]2"},
		"a join of two that are one":        {without(outNet([]int{4}, cellOf(join, 8, b, b))), "0=in1:4 0=join:8(0,0) [][0][]1"},
		"a join of three":                   {without(outNet([]int{4}, cellOf(join, 9, e, b, a))), "0=in0:4 1=in1:4 2=in2:1 1=join:5(2,1) 0=join:9(1,0) [][0][]3"},
		"a join of four":                    {without(outNet([]int{4, b}, cellOf(join, 13, a, b, e, r))), "0=in0:4 1=in1:4 2=in2:1 3='1001 0=join:8(0,1) 0=join:9(0,2) 0=join:13(0,3) [][0 1][]4"},
		"a join that reads one again":       {without(outNet([]int{4}, cellOf(join, 12, a, b, a))), "0=in0:4 1=in1:4 1=join:8(0,1) 0=join:12(1,0) [][0][]2"},
		"a join of one often":               {without(outNet([]int{4}, cellOf(join, 4, e, e, e, e))), "0=in2:1 1=join:2(0,0) 1=join:3(1,0) 0=join:4(1,0) [][0][]2"},
		"a join whose cells are outs":       {without(outNet([]int{4, a, e}, cellOf(join, 9, a, e, b))), "0=in0:4 1=in1:4 2=in2:1 3=join:5(0,2) 1=join:9(3,1) [][1 0 2][]4"},
		"a join that is read":               {without(outNet([]int{5, 4}, cellOf(join, 9, a, e, b), cellOf(impl.OpAny, 1, 4))), "0=in0:4 1=in1:4 2=in2:1 0=join:5(0,2) 0=join:9(0,1) 1=any:1(0) [][1 0][]3"},
	} {
		got, code := holdCompiled(t, c.n)
		if code != impl.OK || codeWritten(got) != c.want {
			t.Errorf("%s: code %d, %s, want %s", what, code, codeWritten(got), c.want)
		}
	}
}

// What stands beside the instructions.
func TestCompiledPorts(t *testing.T) {
	n := theNet()
	c, code := holdCompiled(t, n)
	if code != impl.OK || !slices.Equal(c.Ins, []int{4, 1}) || c.Clocks != 2 || !slices.Equal(c.Inits, []string{"0000", "1"}) || !slices.Equal(c.Ticks, []int{0, 1}) {
		t.Errorf("code %d, %s", code, codeShown(c))
	}
	wants(t, "the net by hand", codeWritten(c), "0=in0:4 1=in1:1 2=reg0:4 3=reg1:1 4='0001 4=add:4(2,4) 1=choose:4(1,4,0) 0=eq:1(2,0) 3=not:1(3) [1 3][2 1][0]5")
	unread := impl.Net{Ins: []impl.NetPort{{Name: "a", Width: 64}}, Clocks: []string{"c", "d", "e"}}
	c, code = holdCompiled(t, unread)
	if code != impl.OK || codeShown(c) != codeShown(impl.Code{Ins: []int{64}, Clocks: 3}) {
		t.Errorf("code %d, %s", code, codeShown(c))
	}
}

func TestWrongNetsCompiled(t *testing.T) {
	wrong := theNet()
	wrong.Cells[8].In[0] = 8
	names := theNet()
	names.Outs[0].Name = names.Outs[1].Name
	unneeded := theNet()
	unneeded.Cells = append(unneeded.Cells, cellOf(impl.OpNot, 2, 0))
	for what, n := range map[string]impl.Net{
		"an operand that is itself": wrong, "two outs of one name": names, "a wrong cell that nothing needs": unneeded, "an out of nothing": {Outs: []impl.NetOut{{Name: "y"}}},
		"an empty cell": {Cells: make([]impl.Cell, 1)}, "very many cells": {Cells: make([]impl.Cell, 1<<20)}, "an input of no width": {Ins: []impl.NetPort{{Name: "a"}}},
	} {
		if c, code := holdCompiled(t, n); code != impl.ErrBad || codeShown(c) != codeShown(impl.Code{}) {
			t.Errorf("%s: code %d, %s", what, code, codeShown(c))
		}
	}
}
