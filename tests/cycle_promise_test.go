package tests

import (
	"fmt"
	"slices"
	"strings"
	"testing"

	"loop.example/g00031/impl"
)

// holdProgram: promise 8 of one netlist.
func holdProgram(t *testing.T, n impl.Net, steps []impl.Step) impl.Code {
	t.Helper()
	c, code := holdCompiled(t, n)
	if code != impl.OK {
		t.Fatalf("%s: code %d", netShown(n), code)
	}
	rows, code := holdRunCode(t, c, steps)
	want, wantCode := impl.NetRun(n, steps)
	if code != wantCode || rowsShown(rows) != rowsShown(want) {
		t.Fatalf("%s\n%s\n%v:\n%s, but the netlist says\n%s", netShown(n), codeShown(c), steps, rowsShown(rows), rowsShown(want))
	}
	return c
}

// stepsFor have all inputs known, and clocks that tick or not.
func stepsFor(c *choices, n impl.Net, count int) []impl.Step {
	s := smith{choices: *c}
	return s.steps(n, count)
}

// Promise 8, of netlists of all kinds of cells.
func TestProgramsAsNets(t *testing.T) {
	counts := map[string]int{}
	for seed := range uint64(1500) {
		w := wirerOf(seed + 1)
		n := w.net(1 + w.below(40))
		c := holdProgram(t, n, stepsFor(&w.choices, n, 1+w.below(5)))
		for _, i := range c.Instrs {
			counts[fmt.Sprint("op ", i.Op, i.Signed)]++
		}
		for _, cell := range n.Cells {
			if cell.Op == impl.OpJoin {
				counts[fmt.Sprint("join ", len(cell.In))]++
			}
		}
		counts[fmt.Sprint("slots ", min(c.Slots, 8))]++
		counts[fmt.Sprint("regs ", len(c.Inits))]++
	}
	wantsOften(t, counts, 40, append(allCellOps(), "join 1", "join 2", "join 3", "join 4", "slots 0", "slots 1", "slots 4", "slots 8", "regs 0", "regs 3"))
}

// Promise 8, of netlists that were designs, and of what the simulator says of these.
func TestProgramsAsDesigns(t *testing.T) {
	for seed := range uint64(120) {
		s := smithOf(seed+500, 0)
		f := s.design()
		n, code := impl.Lower(f)
		if code != impl.OK {
			t.Fatalf("%s%s: code %d", signalsShown(f), procsShown(f), code)
		}
		steps := s.steps(n, 1+s.below(6))
		holdProgram(t, n, steps)
		holdStepped(t, f, n, steps, nil)
	}
	n := netOf(t, countDown)
	c := holdProgram(t, n, slices.Repeat(stepsOf("0011/t"), 18))
	rows, _ := impl.RunCode(c, slices.Repeat(stepsOf("0011/t"), 18))
	if last := rows[17]; last.Outs[0] != "0000" || last.Outs[2] != "1" || rows[2].Outs[0] != "0011" {
		t.Errorf("%v", last)
	}
}

// A code whose slots are others tells the same.
func TestOtherSlots(t *testing.T) {
	for seed := range uint64(300) {
		w := wirerOf(seed + 70000)
		n := w.net(1 + w.below(30))
		steps := stepsFor(&w.choices, n, 3)
		c := otherSlots(&w.choices, holdProgram(t, n, steps))
		rows, code := holdRunCode(t, c, steps)
		want, _ := impl.NetRun(n, steps)
		if code != impl.OK || rowsShown(rows) != rowsShown(want) {
			t.Fatalf("%s\n%s: code %d, %s, want %s", netShown(n), codeShown(c), code, rowsShown(rows), rowsShown(want))
		}
	}
}

// A code with one piece changed is one where the chapter's rules say so, and runs as told.
func TestBentCodes(t *testing.T) {
	right, wrong := 0, 0
	for seed := range uint64(6000) {
		w := wirerOf(seed + 31)
		n := w.net(1 + w.below(15))
		c, _ := impl.Compile(n)
		if w.below(3) == 0 {
			c = otherSlots(&w.choices, c)
		}
		steps := stepsFor(&w.choices, n, 2)
		bentCode(&w.choices, &c)
		if got := impl.CodeOK(c); got != codeTold(c) {
			t.Fatalf("%s: %v", codeShown(c), got)
		} else if got {
			right++
		} else {
			wrong++
		}
		holdRunCode(t, c, steps)
	}
	if right < 600 || wrong < 2000 {
		t.Errorf("%d right, %d wrong", right, wrong)
	}
}

// A netlist with one piece changed is compiled as told, or is none.
func TestBentNetsCompiled(t *testing.T) {
	codes := map[int]int{}
	for seed := range uint64(3000) {
		w := wirerOf(seed + 9000)
		n := w.net(1 + w.below(15))
		bentNet(&w.choices, &n)
		_, code := holdCompiled(t, n)
		codes[code]++
	}
	if codes[impl.OK] < 200 || codes[impl.ErrBad] < 1000 {
		t.Errorf("codes %v", codes)
	}
}

// roomyCode is a copy with room behind each list.
func roomyCode(c impl.Code) impl.Code {
	roomy := func(list []int) []int { return append(slices.Clone(list), -7)[:len(list)] }
	c.Instrs = append(slices.Clone(c.Instrs), impl.Instr{Op: -7})[:len(c.Instrs)]
	c.Inits = append(slices.Clone(c.Inits), "behind")[:len(c.Inits)]
	c.Ins, c.Ticks, c.Nexts, c.Outs, c.Checks = roomy(c.Ins), roomy(c.Ticks), roomy(c.Nexts), roomy(c.Outs), roomy(c.Checks)
	return c
}

// wholeCode writes a code out with what stands behind its lists.
func wholeCode(c impl.Code) string {
	text := fmt.Sprint(c.Slots, c.Clocks, c.Instrs[:cap(c.Instrs)], c.Inits[:cap(c.Inits)])
	for _, list := range [][]int{c.Ins, c.Ticks, c.Nexts, c.Outs, c.Checks} {
		text += fmt.Sprint(list[:cap(list)])
	}
	return text
}

// codeApart tells where two lists share memory, behind their ends too.
func codeApart(t *testing.T, c impl.Code, seen map[any]bool) {
	t.Helper()
	put := func(place any) {
		if seen[place] {
			t.Fatal("two lists share memory")
		}
		seen[place] = true
	}
	for _, list := range [][]int{c.Ins, c.Ticks, c.Nexts, c.Outs, c.Checks} {
		for i := range list[:cap(list)] {
			put(&list[:cap(list)][i])
		}
	}
	for i := range c.Inits[:cap(c.Inits)] {
		put(&c.Inits[:cap(c.Inits)][i])
	}
	for i := range c.Instrs[:cap(c.Instrs)] {
		put(&c.Instrs[:cap(c.Instrs)][i])
	}
}

// Promise 1: no argument is written into, not behind its end either, and no two lists of an answer share memory.
func TestCompileKeepsArguments(t *testing.T) {
	for seed := range uint64(200) {
		w := wirerOf(seed + 4000)
		n := roomyNet(w.net(1 + w.below(40)))
		told := wholeNet(n)
		c, code := impl.Compile(n)
		again, codeAgain := impl.Compile(n)
		if wholeNet(n) != told {
			t.Fatalf("%s: the arguments were changed", told)
		}
		if code != codeAgain || codeShown(c) != codeShown(again) {
			t.Fatalf("%s: another answer", told)
		}
		seen := map[any]bool{}
		codeApart(t, c, seen)
		codeApart(t, again, seen)
	}
}

func TestRunCodeKeepsArguments(t *testing.T) {
	for seed := range uint64(100) {
		w := wirerOf(seed + 900)
		n := w.net(1 + w.below(40))
		made, _ := impl.Compile(n)
		c := roomyCode(made)
		steps := stepsFor(&w.choices, n, 5)
		told := wholeCode(c) + fmt.Sprint(steps)
		impl.CodeOK(c)
		rows, _ := impl.RunCode(c, steps[:4])
		again, _ := impl.RunCode(c, steps[:4])
		if wholeCode(c)+fmt.Sprint(steps) != told {
			t.Fatalf("%s: the arguments were changed", told)
		}
		kept := rowsShown(rows)
		if rowsShown(again) != kept {
			t.Fatalf("%s: another answer", told)
		}
		for i, row := range again {
			for k, list := range [][]string{row.Outs, row.Checks, row.Regs} {
				mark := fmt.Sprint("changed", i, k)
				for at := range list[:cap(list)] {
					if strings.HasPrefix(list[:cap(list)][at], "changed") {
						t.Fatalf("%s: two lists share memory", told)
					}
					list[:cap(list)][at] = mark
				}
			}
		}
		if rowsShown(rows) != kept || wholeCode(c)+fmt.Sprint(steps) != told {
			t.Fatalf("%s: two answers share memory", told)
		}
	}
}
