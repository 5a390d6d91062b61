package tests

import (
	"fmt"
	"slices"
	"testing"

	"loop.example/g00031/impl"
)

func TestCycleConstants(t *testing.T) {
	if impl.MaxInstrs != 16384 {
		t.Errorf("%d", impl.MaxInstrs)
	}
}

// fullCode has as much of each thing as a code can have; each instruction has a slot of its own.
func fullCode() impl.Code {
	c := impl.Code{Slots: impl.MaxInstrs, Clocks: impl.MaxClocks}
	for i := range impl.MaxSignals {
		c.Ins = append(c.Ins, 1)
		c.Outs = append(c.Outs, i)
		c.Checks = append(c.Checks, impl.MaxInstrs-1-i)
	}
	for i := range impl.MaxRegs {
		c.Inits, c.Ticks, c.Nexts = append(c.Inits, "0"), append(c.Ticks, i%8), append(c.Nexts, impl.MaxInstrs-1-i)
	}
	c.Instrs = append(c.Instrs, numberInstr(0, impl.OpIn, 255, 1))
	for i := range impl.MaxInstrs - 1 {
		c.Instrs = append(c.Instrs, instr(i+1, impl.OpNot, 1, i))
	}
	return c
}

func TestCodeLimits(t *testing.T) {
	full := fullCode()
	wantsProgram(t, "all full", full, true)
	for what, change := range map[string]func(c *impl.Code){
		"an instruction more": func(c *impl.Code) { c.Instrs = append(slices.Clone(c.Instrs), bitsInstr(0, "0")) },
		"a slot more":         func(c *impl.Code) { c.Slots++ },
		"an input more":       func(c *impl.Code) { c.Ins = append(slices.Clone(c.Ins), 1) },
		"a clock more":        func(c *impl.Code) { c.Clocks++ },
		"an out more":         func(c *impl.Code) { c.Outs = append(slices.Clone(c.Outs), 0) },
		"a check more":        func(c *impl.Code) { c.Checks = append(slices.Clone(c.Checks), 0) },
		"a register more": func(c *impl.Code) {
			c.Inits, c.Ticks, c.Nexts = append(slices.Clone(c.Inits), "0"), append(slices.Clone(c.Ticks), 0), append(slices.Clone(c.Nexts), 0)
		},
	} {
		more := full
		change(&more)
		wantsProgram(t, what, more, false)
	}
	wantsProgram(t, "more slots alone", impl.Code{Slots: impl.MaxInstrs + 1}, false)
	wantsProgram(t, "very many instructions", impl.Code{Slots: 1, Instrs: make([]impl.Instr, 1<<20)}, false)
	wantsProgram(t, "very many inputs", impl.Code{Ins: slices.Repeat([]int{1}, 1<<20)}, false)
	step := impl.Step{Ins: slices.Repeat([]string{"0"}, 256), Ticks: make([]bool, 8)}
	step.Ticks[3] = true
	rows, code := holdRunCode(t, full, []impl.Step{step, step})
	if code != impl.OK || rows[1].Checks[0] != "1" || rows[1].Checks[1] != "0" || rows[1].Regs[3] != "0" || rows[1].Regs[11] != "0" || rows[1].Outs[1] != "1" {
		t.Errorf("code %d, %v", code, rows)
	}
}

// The limits of the netlist are those of the code.
func TestFullNetCompiled(t *testing.T) {
	var n impl.Net
	for i := range impl.MaxSignals {
		n.Ins = append(n.Ins, impl.NetPort{Name: fmt.Sprint("a", i), Width: 1 + i%64})
		n.Cells = append(n.Cells, inCell(i, 1+i%64))
		n.Outs = append(n.Outs, impl.NetOut{Name: fmt.Sprint(i), Cell: i})
		n.Checks = append(n.Checks, impl.NetOut{Name: fmt.Sprint(i), Cell: i - i%64})
	}
	for i := range impl.MaxClocks {
		n.Clocks = append(n.Clocks, fmt.Sprint("c", i))
	}
	for i := range impl.MaxRegs {
		n.Regs = append(n.Regs, impl.NetReg{Name: fmt.Sprint(i), Width: 64, Clock: i % 8, Next: 256 + i, Init: impl.BitsOf(i, 64)})
		n.Cells = append(n.Cells, regCell(255-i, 64))
	}
	n.Cells = append(n.Cells, cellOf(impl.OpXor, 64, 256, 511))
	for len(n.Cells) < impl.MaxCells {
		n.Cells = append(n.Cells, cellOf(impl.OpNot, 64, len(n.Cells)-1))
	}
	n.Regs[0].Next = impl.MaxCells - 1
	w := wirerOf(5)
	c := holdProgram(t, n, stepsFor(&w.choices, n, 2))
	if len(c.Instrs) != impl.MaxCells || c.Slots != 512 || len(c.Outs) != 256 || len(c.Nexts) != 256 {
		t.Errorf("%d instructions, %d slots", len(c.Instrs), c.Slots)
	}
	for what, change := range map[string]func(n *impl.Net){
		"an input more": func(n *impl.Net) { n.Ins = append(slices.Clone(n.Ins), impl.NetPort{Name: "more", Width: 1}) },
		"a clock more":  func(n *impl.Net) { n.Clocks = append(slices.Clone(n.Clocks), "more") },
		"an out more":   func(n *impl.Net) { n.Outs = append(slices.Clone(n.Outs), impl.NetOut{Name: "more"}) },
		"a check more":  func(n *impl.Net) { n.Checks = append(slices.Clone(n.Checks), impl.NetOut{Name: "more"}) },
		"a register more": func(n *impl.Net) {
			n.Regs = append(slices.Clone(n.Regs), impl.NetReg{Name: "more", Width: 1, Init: "0"})
		},
		"a cell more": func(n *impl.Net) { n.Cells = append(slices.Clone(n.Cells), bitsCell("0")) },
	} {
		more := n
		change(&more)
		if c, code := impl.Compile(more); code != impl.ErrBad || codeShown(c) != codeShown(impl.Code{}) {
			t.Errorf("%s: code %d", what, code)
		}
	}
}

// joinsNet has joins of so many single bits each, all of which are needed.
func joinsNet(counts ...int) impl.Net {
	n := impl.Net{Ins: []impl.NetPort{{Name: "a", Width: 1}}, Clocks: []string{"c"}, Cells: []impl.Cell{inCell(0, 1)}}
	for i, count := range counts {
		n.Cells = append(n.Cells, cellOf(impl.OpJoin, count, make([]int, count)...))
		if i < impl.MaxSignals {
			n.Outs = append(n.Outs, impl.NetOut{Name: fmt.Sprint(i), Cell: i + 1})
		} else {
			n.Regs = append(n.Regs, impl.NetReg{Name: fmt.Sprint(i), Width: count, Next: i + 1, Init: zeros(count)})
		}
	}
	return n
}

func TestMaxInstrs(t *testing.T) {
	many := slices.Repeat([]int{64}, 260)
	for what, c := range map[string]struct {
		counts []int
		code   int
		instrs int
	}{
		"16383":                    {append(slices.Clone(many), 3), impl.OK, 16383},
		"16384":                    {append(slices.Clone(many), 4), impl.OK, 16384},
		"16384, and joins of one":  {append(slices.Clone(many), 4, 1, 1), impl.OK, 16384},
		"16385":                    {append(slices.Clone(many), 5), impl.ErrMany, 0},
		"16385 by the last one":    {append(slices.Clone(many), 4, 2), impl.ErrMany, 0},
		"16446":                    {append(slices.Clone(many), 64, 4), impl.ErrMany, 0},
		"as many joins as can be":  {slices.Repeat([]int{64}, 512), impl.ErrMany, 0},
		"one that is read by none": {append(slices.Clone(many), 1), impl.OK, 16381},
	} {
		got, code := impl.Compile(joinsNet(c.counts...))
		want, wantCode := compilingTold(joinsNet(c.counts...))
		if code != c.code || len(got.Instrs) != c.instrs || wantCode != code || codeShown(got) != codeShown(want) {
			t.Errorf("%s: code %d, %d instructions", what, code, len(got.Instrs))
		}
		if code == impl.OK && !impl.CodeOK(got) {
			t.Errorf("%s: no code", what)
		}
	}
	// what nobody needs does not count
	n := joinsNet(append(slices.Clone(many), 4)...)
	for len(n.Cells) < impl.MaxCells {
		n.Cells = append(n.Cells, cellOf(impl.OpJoin, 64, make([]int, 64)...))
	}
	got, code := impl.Compile(n)
	if code != impl.OK || len(got.Instrs) != impl.MaxInstrs || got.Slots != 262 {
		t.Errorf("code %d, %d instructions, %d slots", code, len(got.Instrs), got.Slots)
	}
	w := wirerOf(9)
	steps := stepsFor(&w.choices, n, 3)
	rows, code := impl.RunCode(got, steps)
	want, _ := impl.NetRun(n, steps)
	if code != impl.OK || rowsShown(rows) != rowsShown(want) {
		t.Errorf("code %d, %d rows", code, len(rows))
	}
}

// A run of as many steps as can be.
func TestRunCodeMaxSteps(t *testing.T) {
	n := outNet([]int{4}, cellOf(impl.OpAdd, 4, 0, 3))
	n.Regs[0].Next = 4
	c, _ := holdCompiled(t, n)
	w := wirerOf(77)
	steps := stepsFor(&w.choices, n, impl.MaxList)
	rows, code := impl.RunCode(c, steps)
	want, _ := impl.NetRun(n, steps)
	if code != impl.OK || len(rows) != impl.MaxList || rowsShown(rows) != rowsShown(want) {
		t.Errorf("code %d, %d rows", code, len(rows))
	}
	if rows, code := impl.RunCode(c, append(steps, steps[0])); code != impl.ErrLong || rows != nil {
		t.Errorf("code %d, %d rows", code, len(rows))
	}
}
