package tests

import (
	"fmt"
	"slices"
	"testing"

	"loop.example/g00031/impl"
)

// Promise 9, and each netlist as told, of netlists of all kinds of cells; each of the rules fits often.
func TestOptimisedAsNets(t *testing.T) {
	fired := map[string]int{}
	for seed := range uint64(3000) {
		w := wirerOf(seed + 1)
		n := w.knotted(1 + w.below(45))
		if !impl.NetOK(n) {
			t.Fatalf("%s: no netlist", netShown(n))
		}
		made, rounds := holdOptimised(t, n, fired)
		holdPromise9(t, n, made, rounds, stepsFor(&w.choices, n, 1+w.below(8)))
		fired[fmt.Sprint("rounds ", rounds)]++
	}
	all := []string{"1", "4 none", "5 0", "5 1", "5 same", "6 join", "6 all", "6 part", "6 within 0", "6 within 1", "6 within 2", "8 found", "fixed 0", "fixed 1", "alike"}
	all = append(all, "3 both true", "3 both false", "3 either true", "3 either false", "rounds 2", "rounds 3", "rounds 4")
	for _, op := range []int{impl.OpAnd, impl.OpMul} {
		all = append(all, fmt.Sprint("2 zero ", op, 0), fmt.Sprint("2 zero ", op, 1))
	}
	for _, op := range []int{impl.OpAnd, impl.OpOr, impl.OpXor, impl.OpAdd, impl.OpMul} {
		all = append(all, fmt.Sprint("2 other ", op, 0), fmt.Sprint("2 other ", op, 1))
	}
	all = append(all, fmt.Sprint("2 other ", impl.OpSub, 1), fmt.Sprint("2 ones ", impl.OpOr, 0), fmt.Sprint("2 ones ", impl.OpOr, 1))
	for _, op := range []int{impl.OpAnd, impl.OpOr, impl.OpXor, impl.OpSub} {
		all = append(all, fmt.Sprint("2 same ", op))
	}
	for _, op := range []int{impl.OpEq, impl.OpNe, impl.OpLt, impl.OpLe} {
		all = append(all, fmt.Sprint("3 same ", op))
	}
	for _, op := range []int{impl.OpShl, impl.OpShr, impl.OpSar} {
		all = append(all, fmt.Sprint("3 shift ", op))
	}
	all = append(all, fmt.Sprint("4 twice ", impl.OpNot), fmt.Sprint("4 twice ", impl.OpNeg), fmt.Sprint("5 turned ", impl.OpNot), fmt.Sprint("5 turned ", impl.OpNone))
	for _, op := range []int{impl.OpAll, impl.OpAny, impl.OpOdd} {
		all = append(all, fmt.Sprint("4 one bit ", op))
	}
	for _, op := range []int{impl.OpAnd, impl.OpOr, impl.OpXor, impl.OpAdd, impl.OpMul, impl.OpEq, impl.OpNe, impl.OpBoth, impl.OpEither} {
		all = append(all, fmt.Sprint("7 ", op))
	}
	wantsOften(t, fired, 20, all)
}

// Promise 9 of netlists that were designs, and of a processor.
func TestOptimisedDesigns(t *testing.T) {
	less := 0
	for seed := range uint64(150) {
		s := smithOf(seed+800, 0)
		n, code := impl.Lower(s.design())
		if code != impl.OK {
			t.Fatalf("code %d", code)
		}
		made, rounds := holdOptimised(t, n, map[string]int{})
		holdPromise9(t, n, made, rounds, s.steps(n, 1+s.below(8)))
		less += len(n.Cells) - len(made.Cells)
	}
	if less < 500 {
		t.Errorf("only %d cells less", less)
	}
	n := netOf(t, countDown)
	made, rounds := holdOptimised(t, n, map[string]int{})
	holdPromise9(t, n, made, rounds, slices.Repeat(stepsOf("0011/t"), 18))
	if len(made.Cells) >= len(n.Cells) || len(made.Regs) != len(n.Regs) {
		t.Errorf("%d of %d cells, %d of %d registers", len(made.Cells), len(n.Cells), len(made.Regs), len(n.Regs))
	}
}

// bentNet changes one piece of a netlist.
func bentNet(c *choices, n *impl.Net) {
	numbers, texts, signs := netPieces(n)
	switch c.below(4) {
	case 0:
		text := texts[c.below(len(texts))]
		*text = c.oneOf("", *text+"0", "x", *texts[c.below(len(texts))])
	case 1:
		sign := signs[c.below(len(signs))]
		*sign = !*sign
	default:
		*numbers[c.below(len(numbers))] += []int{1, -1, 2, -2, 31}[c.below(5)]
	}
}

// A netlist with one piece changed is optimised and retimed as told, or is none.
func TestBentNetsOptimised(t *testing.T) {
	right, wrong := 0, 0
	for seed := range uint64(3000) {
		w := wirerOf(seed + 9000)
		n := w.knotted(1 + w.below(15))
		bentNet(&w.choices, &n)
		if impl.NetOK(n) {
			right++
		} else {
			wrong++
		}
		holdOptimised(t, n, map[string]int{})
		holdRetimable(t, n)
		holdRetimed(t, n, w.below(len(n.Cells)))
	}
	if right < 200 || wrong < 1000 {
		t.Errorf("%d right, %d wrong", right, wrong)
	}
}

// wrongNets are netlists in which something is not as it must be.
func wrongNets() map[string]impl.Net {
	bad := func(change func(n *impl.Net)) impl.Net {
		n := theNet()
		change(&n)
		return n
	}
	return map[string]impl.Net{
		"an operand that is itself":          bad(func(n *impl.Net) { n.Cells[8].In[0] = 8 }),
		"two outs of one name":               bad(func(n *impl.Net) { n.Outs[0].Name = n.Outs[1].Name }),
		"a wrong cell that nothing needs":    bad(func(n *impl.Net) { n.Cells = append(n.Cells, cellOf(impl.OpNot, 2, 0)) }),
		"an Init that is not known":          bad(func(n *impl.Net) { n.Regs[1].Init = "x" }),
		"a Next that is none":                bad(func(n *impl.Net) { n.Regs[1].Next = 9 }),
		"a clock that is none":               bad(func(n *impl.Net) { n.Clocks = n.Clocks[:1] }),
		"a division":                         bad(func(n *impl.Net) { n.Cells[5].Op = impl.OpDiv }),
		"an out of nothing":                  {Outs: []impl.NetOut{{Name: "y"}}},
		"an empty cell":                      {Cells: make([]impl.Cell, 1)},
		"very many cells":                    {Cells: make([]impl.Cell, 1<<20)},
		"very many registers":                {Regs: make([]impl.NetReg, 1<<20)},
		"an input of no width":               {Ins: []impl.NetPort{{Name: "a"}}},
		"a cell more than there may be":      {Cells: slices.Repeat([]impl.Cell{bitsCell("0")}, impl.MaxCells+1)},
		"an operation that there is nowhere": {Cells: []impl.Cell{{Op: 1 << 40, Width: 1}}},
	}
}

func TestWrongNetsOptimised(t *testing.T) {
	for what, n := range wrongNets() {
		if made, code := impl.Optimise(n); code != impl.ErrBad || netShown(made) != netShown(impl.Net{}) {
			t.Errorf("%s: code %d, %s", what, code, netShown(made))
		}
	}
}

// Promise 1: no argument is written into, not behind its end either, and no two lists of an answer share memory.
func TestOptimiseKeepsArguments(t *testing.T) {
	for seed := range uint64(300) {
		w := wirerOf(seed + 4000)
		made := w.knotted(1 + w.below(40))
		if seed%2 == 0 {
			// nothing is changed in it any more
			made, _ = impl.Optimise(made)
		}
		holdKept(t, roomyNet(made), impl.Optimise)
	}
}

// holdKept makes a netlist of another one twice: that one is kept as it was, the answers are the same, and no two lists share memory.
func holdKept(t *testing.T, n impl.Net, makes func(n impl.Net) (impl.Net, int)) int {
	t.Helper()
	told := wholeNet(n)
	got, code := makes(n)
	again, codeAgain := makes(n)
	if wholeNet(n) != told {
		t.Fatalf("%s: the arguments were changed", told)
	}
	if code != codeAgain || netShown(got) != netShown(again) {
		t.Fatalf("%s: another answer", told)
	}
	seen := map[any]bool{}
	netApart(t, n, seen)
	netApart(t, got, seen)
	netApart(t, again, seen)
	return code
}

// fullNet has as many cells, registers, inputs, outs and checks as a netlist can have; nothing of it can be left out.
func fullNet() impl.Net {
	var n impl.Net
	for i := range impl.MaxClocks {
		n.Clocks = append(n.Clocks, fmt.Sprint("clk", i))
	}
	for i := range impl.MaxSignals {
		n.Ins = append(n.Ins, impl.NetPort{Name: fmt.Sprint("a", i), Width: 8})
		n.Cells = append(n.Cells, inCell(i, 8))
	}
	for i := range impl.MaxRegs {
		n.Cells = append(n.Cells, regCell(i, 8))
	}
	for len(n.Cells) < impl.MaxCells-impl.MaxSignals {
		at := len(n.Cells)
		n.Cells = append(n.Cells, cellOf([]int{impl.OpSub, impl.OpShl, impl.OpSar}[at%3], 8, at-1, at-512))
	}
	for i := range impl.MaxRegs {
		n.Regs = append(n.Regs, impl.NetReg{Name: fmt.Sprint(i), Width: 8, Clock: i % 8, Init: impl.BitsOf(i, 8), Next: 3840 - 1 - i})
	}
	for i := range impl.MaxSignals {
		n.Cells = append(n.Cells, cellOf(impl.OpOdd, 1, 3840-512+i))
		n.Outs = append(n.Outs, impl.NetOut{Name: fmt.Sprint(i), Cell: 3840 - 1 - i})
		n.Checks = append(n.Checks, impl.NetOut{Name: fmt.Sprint(i), Cell: 3840 + i})
	}
	return n
}

// A netlist of all that there can be is optimised; one thing more is none.
func TestFullNetOptimised(t *testing.T) {
	n := fullNet()
	w := wirerOf(3)
	steps := stepsFor(&w.choices, n, 2)
	made, code := impl.Optimise(n)
	if code != impl.OK || len(made.Cells) != impl.MaxCells || len(made.Regs) != impl.MaxRegs {
		t.Fatalf("code %d, %d cells, %d registers", code, len(made.Cells), len(made.Regs))
	}
	want, _, rounds := optimisedTold(n, map[string]int{})
	if netShown(made) != netShown(want) {
		t.Errorf("another one than told")
	}
	holdPromise9(t, n, made, rounds, steps)
	for what, change := range map[string]func(n *impl.Net){
		"a cell more":     func(n *impl.Net) { n.Cells = append(n.Cells, bitsCell("0")) },
		"a register more": func(n *impl.Net) { n.Regs = append(n.Regs, impl.NetReg{Name: "more", Width: 8, Init: zeros(8)}) },
	} {
		more := fullNet()
		change(&more)
		if made, code := impl.Optimise(more); code != impl.ErrBad || netShown(made) != netShown(impl.Net{}) {
			t.Errorf("%s: code %d", what, code)
		}
	}
}

// Cells as deep as they can be, and what is put at the end where there are as many as can be: constants for all registers.
func TestDeepAndFixed(t *testing.T) {
	var n impl.Net
	n.Clocks = []string{"c"}
	for i := range impl.MaxRegs {
		n.Regs = append(n.Regs, impl.NetReg{Name: fmt.Sprint(i), Width: 9, Init: impl.BitsOf(i, 9), Next: i})
		n.Cells = append(n.Cells, regCell(i, 9))
	}
	for len(n.Cells) < impl.MaxCells {
		at := len(n.Cells)
		n.Cells = append(n.Cells, cellOf(impl.OpSub, 9, at-1, at%256))
	}
	n.Outs = outsRead("y", fmt.Sprint(impl.MaxCells-1))
	made, code := impl.Optimise(n)
	if code != impl.OK || len(made.Regs) != 0 || len(made.Cells) != 1 || made.Cells[0].Op != impl.OpBits {
		t.Errorf("code %d, %d cells, %d registers", code, len(made.Cells), len(made.Regs))
	}
	holdPromise9(t, n, made, 3, []impl.Step{{Ticks: []bool{true}}, {Ticks: []bool{false}}})
}
