package tests

import (
	"fmt"
	"slices"
	"strings"
	"testing"

	"loop.example/g00031/impl"
)

func holdRetimable(t *testing.T, n impl.Net) []int {
	t.Helper()
	got := impl.Retimable(n)
	if want := retimableTold(n); !slices.Equal(got, want) {
		t.Fatalf("%s: %v, want %v", netWritten(n), got, want)
	}
	return got
}

// holdRetimed holds a retimed netlist against what is told of it.
func holdRetimed(t *testing.T, n impl.Net, at int) (impl.Net, int) {
	t.Helper()
	got, code := impl.Retime(n, at)
	want, wantCode := retimedTold(n, at)
	if code != wantCode || netShown(got) != netShown(want) {
		t.Fatalf("%s at %d\ncode %d, want %d\n%s, want\n%s", netWritten(n), at, code, wantCode, netShown(got), netShown(want))
	}
	if code == impl.OK && !impl.NetOK(got) {
		t.Fatalf("%s at %d\nis made no netlist:\n%s", netWritten(n), at, netShown(got))
	}
	return got, code
}

// regsText has four registers: two of 4 bits and one of 1 with the first clock, one of 4 with the other one.
const regsText = " | p=0011<0@0 q=0101<1@0 s=1<2@0 u=1000<0@1 | "

func TestRetimable(t *testing.T) {
	for what, c := range map[string]struct {
		cells string
		want  string
	}{
		"nothing":                            {"", "[]"},
		"ins, constants and registers":       {"in0 in1 in2 reg0 '0011", "[]"},
		"of one register":                    {"in0 in1 in2 reg0 not(3)", "[4]"},
		"of two":                             {"in0 in1 in2 reg0 reg1 add(3,4)", "[5]"},
		"of one register twice":              {"in0 in1 in2 reg0 mul(3,3)", "[4]"},
		"of a register and a constant":       {"in0 in1 in2 reg0 '0011 add(3,4) sub(4,3)", "[5 6]"},
		"of constants alone":                 {"in0 in1 in2 '0011 '0101 add(3,4) not(3)", "[]"},
		"of an in":                           {"in0 in1 in2 not(0)", "[]"},
		"of a register and an in":            {"in0 in1 in2 reg0 add(0,3) add(3,0)", "[]"},
		"of another cell":                    {"in0 in1 in2 reg0 not(3) not(4) add(3,4)", "[4]"},
		"of two clocks":                      {"in0 in1 in2 reg0 reg3 add(3,4) not(3) not(4) add(4,4)", "[6 7 8]"},
		"choose":                             {"in0 in1 in2 reg0 reg1 reg2 reg3 choose(5,3,4) choose(5,3,6) choose(2,3,4) choose(3,3,0)", "[7]"},
		"choose with constants":              {"in0 in1 in2 reg0 reg2 '0110 '1 choose(4,3,5) choose(4,5,5) choose(6,5,5) choose(6,5,3)", "[7 8 10]"},
		"join":                               {"in0 in1 in2 reg0 reg1 reg2 '01 join(3) join(3,4,5,6) join(6) join(3,4,5,2,6) join(6,6,6,6,5)", "[7 8 11]"},
		"part, size":                         {"in0 in1 in2 reg0 part2@1(3) size2(3) size8s(3) part2@0(4) size4(6)", "[4 5 6]"},
		"comparisons, truths, shifts":        {"in0 in1 in2 reg0 reg1 reg2 eq(3,4) lts(3,4) both(3,5) any(4) sar(3,5) shl(3,2)", "[6 7 8 9 10]"},
		"whether it is needed does not mind": {"in0 in1 in2 reg0 not(3) reg1 neg(5)", "[4 6]"},
	} {
		n := netRead(c.cells + regsText)
		if c.cells == "" {
			n = impl.Net{}
		}
		if got := fmt.Sprint(holdRetimable(t, n)); got != c.want {
			t.Errorf("%s: %s, want %s", what, got, c.want)
		}
		for at := -1; at <= len(n.Cells); at++ {
			_, code := holdRetimed(t, n, at)
			want := impl.ErrKind
			if strings.Contains(strings.NewReplacer("[", " ", "]", " ").Replace(c.want), fmt.Sprint(" ", at, " ")) {
				want = impl.OK
			}
			if code != want {
				t.Errorf("%s at %d: code %d", what, at, code)
			}
		}
	}
	for what, n := range wrongNets() {
		if got := impl.Retimable(n); len(got) != 0 {
			t.Errorf("%s: %v", what, got)
		}
	}
}

func TestRetime(t *testing.T) {
	for what, c := range map[string]struct {
		text string
		at   int
		want string
	}{
		"of one register":              {"in0 reg0 not(1) | p=0011<0@0 | 2", 2, "in0 reg0 reg1 not(0) | p=0011<0@0 r2=1100<3@0 | 2 | "},
		"of two":                       {"in0 in1 reg0 reg1 sub(2,3) | p=0011<0@1 q=0101<1@1 | 4", 4, "in0 in1 reg0 reg1 reg2 sub(0,1) | p=0011<0@1 q=0101<1@1 r4=1110<5@1 | 4 | "},
		"of one twice":                 {"in0 reg0 add(1,1) | p=0110<0@0 | 2", 2, "in0 reg0 reg1 add(0,0) | p=0110<0@0 r2=1100<3@0 | 2 | "},
		"a constant stays":             {"in0 '0001 reg0 sub(1,2) | p=0011<0@0 | 3", 3, "in0 '0001 reg0 reg1 sub(1,0) | p=0011<0@0 r3=1110<4@0 | 3 | "},
		"choose":                       {"in0 in1 in2 reg0 reg1 '1111 choose(3,4,5) | p=0<2@0 q=0101<1@0 | 6", 6, "in0 in1 in2 reg0 reg1 '1111 reg2 choose(2,1,5) | p=0<2@0 q=0101<1@0 r6=1111<7@0 | 6 | "},
		"a part":                       {"in0 reg0 part2@1(1) | p=0110<0@0 | 2", 2, "in0 reg0 reg1 part2@1(0) | p=0110<0@0 r2=11<3@0 | 2 | "},
		"a size with a sign":           {"in0 reg0 size6s(1) | p=1010<0@0 | 2", 2, "in0 reg0 reg1 size6s(0) | p=1010<0@0 r2=111010<3@0 | 2 | "},
		"less with a sign":             {"in0 reg0 '0000 lts(1,2) | p=1010<0@0 | 3", 3, "in0 reg0 '0000 reg1 lts(0,2) | p=1010<0@0 r3=1<4@0 | 3 | "},
		"less without a sign":          {"in0 reg0 '0000 lt(1,2) | p=1010<0@0 | 3", 3, "in0 reg0 '0000 reg1 lt(0,2) | p=1010<0@0 r3=0<4@0 | 3 | "},
		"a join of many":               {"in2 reg0 '10 join(1,2,1,1,2) | p=1<0@1 | 3", 3, "in2 reg0 '10 reg1 join(0,2,0,0,2) | p=1<0@1 r3=1101110<4@1 | 3 | "},
		"a Next that reads it":         {"reg0 not(0) | p=0<1@0 | 1", 1, "reg0 reg1 not(1) | p=0<1@0 r1=1<2@0 | 1 | "},
		"a Next that is a register":    {"reg0 reg1 not(0) | p=0<1@0 q=1<2@0 | 2", 2, "reg0 reg1 reg2 not(1) | p=0<1@0 q=1<2@0 r2=1<3@0 | 2 | "},
		"a Next behind it":             {"reg0 odd(0) in0 | p=0111<2@0 | 0 | 1", 1, "reg0 reg1 in0 odd(2) | p=0111<2@0 r1=1<3@0 | 0 | 1"},
		"cells that read it stay":      {"in0 reg0 neg(1) not(2) add(2,3) | p=0001<4@0 | 3 2 | ", 2, "in0 reg0 reg1 not(2) add(2,3) neg(4) | p=0001<4@0 r2=1111<5@0 | 3 2 | "},
		"though nothing needs it":      {"in0 reg0 neg(1) neg(1) in0 | p=0001<4@0 | 1", 3, "in0 reg0 neg(1) reg1 in0 neg(4) | p=0001<4@0 r3=1111<5@0 | 1 | "},
		"the same cell elsewhere":      {"in0 reg0 neg(1) neg(1) neg(0) | p=0001<0@0 | 2 3 4", 2, "in0 reg0 reg1 neg(1) neg(0) neg(0) | p=0001<0@0 r2=1111<5@0 | 2 3 4 | "},
		"other registers stay":         {"in0 reg1 neg(1) in1 | q=0000<3@1 p=0001<0@0 s=1111<1@1 | 2", 2, "in0 reg1 reg3 in1 neg(0) | q=0000<3@1 p=0001<0@0 s=1111<1@1 r2=1111<4@0 | 2 | "},
		"names that are nearly that":   {"in0 reg0 neg(1) | r02=0001<0@0 r=0001<0@0 r20=0001<0@0 R2=0001<0@0 | 2", 2, "in0 reg0 reg4 neg(0) | r02=0001<0@0 r=0001<0@0 r20=0001<0@0 R2=0001<0@0 r2=1111<3@0 | 2 | "},
		"a name that an out has, too":  {"in0 reg0 neg(1) | p=0001<0@0 | 0 0 0 2", 2, "in0 reg0 reg1 neg(0) | p=0001<0@0 r2=1111<3@0 | 0 0 0 2 | "},
		"a number of two figures":      {"in0 in0 in0 in0 in0 in0 in0 in0 in0 reg0 neg(9) | p=0001<8@0 | 10", 10, "in0 in0 in0 in0 in0 in0 in0 in0 in0 reg0 reg1 neg(8) | p=0001<8@0 r10=1111<11@0 | 10 | "},
		"an operation with its Widths": {"in0 in1 reg0 reg1 eq(2,3) | p=0001<0@0 q=0001<1@0 | 4", 4, "in0 in1 reg0 reg1 reg2 eq(0,1) | p=0001<0@0 q=0001<1@0 r4=1<5@0 | 4 | "},
	} {
		n := netRead(c.text)
		got, code := holdRetimed(t, n, c.at)
		if code != impl.OK || netWritten(got) != c.want {
			t.Errorf("%s: code %d, %s, want %s", what, code, netWritten(got), c.want)
		}
		w := wirerOf(uint64(len(what)))
		holdSameRows(t, n, got, stepsFor(&w.choices, n, 6))
	}
}

func TestRetimeFaults(t *testing.T) {
	const text = "in0 reg0 neg(1) | p=0001<0@0 | 2"
	few := netRead(text)
	taken := netRead("in0 reg0 neg(1) | r2=0001<0@0 | 2")
	other := netRead("in0 reg0 neg(1) not(0) | p=0001<0@0 r2=0001<0@0 r3=0000<0@0 | 2")
	// many has so many cells and registers, the last of them with that name
	many := func(cells, regs int, name string) impl.Net {
		n := netRead(text)
		for len(n.Cells) < cells {
			n.Cells = append(n.Cells, inCell(0, 4))
		}
		for len(n.Regs) < regs {
			n.Regs = append(n.Regs, impl.NetReg{Name: fmt.Sprint("s", len(n.Regs)), Width: 4, Init: "0000"})
		}
		n.Regs[len(n.Regs)-1].Name = name
		return n
	}
	for what, c := range map[string]struct {
		n    impl.Net
		at   int
		want int
	}{
		"right":                              {few, 2, impl.OK},
		"an in":                              {few, 0, impl.ErrKind},
		"a register":                         {few, 1, impl.ErrKind},
		"behind the end":                     {few, 3, impl.ErrKind},
		"below":                              {few, -1, impl.ErrKind},
		"far below":                          {few, -1 << 63, impl.ErrKind},
		"far above":                          {few, 1<<63 - 1, impl.ErrKind},
		"nothing":                            {impl.Net{}, 0, impl.ErrKind},
		"a name that is there":               {taken, 2, impl.ErrTwice},
		"a name that is there, further":      {other, 2, impl.ErrTwice},
		"a name that is there, of no kind":   {other, 3, impl.ErrKind},
		"a cell less than can be":            {many(impl.MaxCells-1, 1, "p"), 2, impl.OK},
		"as many cells as can be":            {many(impl.MaxCells, 1, "p"), 2, impl.ErrMany},
		"a cell more than can be":            {many(impl.MaxCells+1, 1, "p"), 2, impl.ErrBad},
		"a register less than can be":        {many(3, impl.MaxRegs-1, "p1"), 2, impl.OK},
		"as many registers as can be":        {many(3, impl.MaxRegs, "p1"), 2, impl.ErrMany},
		"a register more than can be":        {many(3, impl.MaxRegs+1, "p1"), 2, impl.ErrBad},
		"both less than can be":              {many(impl.MaxCells-1, impl.MaxRegs-1, "p1"), 2, impl.OK},
		"many ahead of twice":                {many(impl.MaxCells, 2, "r2"), 2, impl.ErrMany},
		"many registers ahead of twice":      {many(3, impl.MaxRegs, "r2"), 2, impl.ErrMany},
		"twice where there are nearly many":  {many(impl.MaxCells-1, impl.MaxRegs-1, "r2"), 2, impl.ErrTwice},
		"kind ahead of many":                 {many(impl.MaxCells, impl.MaxRegs, "r2"), 1, impl.ErrKind},
		"the last cell":                      {netRead("in0 reg0 neg(0) neg(1) | p=0001<0@0 | 2"), 3, impl.OK},
		"two clocks":                         {netRead("reg0 reg1 add(0,1) | p=0001<0@0 q=0001<0@1 | 2"), 2, impl.ErrKind},
		"constants alone":                    {netRead("'01 not(0) | | 1"), 1, impl.ErrKind},
		"an in beside a register":            {netRead("in0 reg0 add(0,1) | p=0001<0@0 | 2"), 2, impl.ErrKind},
		"a cell of a cell":                   {netRead("in0 reg0 neg(1) not(2) | p=0001<0@0 | 2"), 3, impl.ErrKind},
		"a name that is there, not its cell": {netRead("in0 reg0 neg(1) not(1) | r3=0001<0@0 | 2"), 2, impl.OK},
	} {
		got, code := holdRetimed(t, c.n, c.at)
		if code != c.want || code != impl.OK && netShown(got) != netShown(impl.Net{}) {
			t.Errorf("%s: code %d, want %d", what, code, c.want)
		}
	}
	for what, n := range wrongNets() {
		for _, at := range []int{-1, 0, 5, 8, 1 << 40} {
			if got, code := impl.Retime(n, at); code != impl.ErrBad || netShown(got) != netShown(impl.Net{}) {
				t.Errorf("%s at %d: code %d", what, at, code)
			}
		}
	}
}

// regsNet is a netlist in which many cells can be retimed: registers and constants are what most cells read.
func (w *wirer) regsNet(cells int) impl.Net {
	n := w.knotted(cells)
	if len(n.Regs) > 0 {
		n.Regs[0].Name = fmt.Sprint("r", w.below(len(n.Cells)))
	}
	for i := range n.Cells {
		c := &n.Cells[i]
		if (c.Op == impl.OpEq || c.Op == impl.OpNe) && w.below(2) == 0 {
			c.Op, c.Signed = impl.OpLt+w.below(2), w.below(2) == 0
		}
		for k, in := range c.In {
			if w.below(3) > 0 {
				c.In[k] = w.regOrBits(n, in, i)
			}
		}
	}
	return n
}

// regOrBits is a cell ahead of another one, of the same width as an operand: a register or a constant, if there is one.
func (w *wirer) regOrBits(n impl.Net, in, before int) int {
	from := w.below(before)
	for k := range before {
		at := (from + k) % before
		c := n.Cells[at]
		if c.Width == n.Cells[in].Width && (c.Op == impl.OpReg || c.Op == impl.OpBits) {
			return at
		}
	}
	return in
}

// Promise 10: netlists retimed at each cell that can be, and retimed again and again.
func TestRetimedAsNets(t *testing.T) {
	counts := map[string]int{}
	for seed := range uint64(250) {
		w := wirerOf(seed + 1)
		n := w.regsNet(1 + w.below(40))
		if !impl.NetOK(n) {
			t.Fatalf("%s: no netlist", netShown(n))
		}
		steps := stepsFor(&w.choices, n, 1+w.below(8))
		for _, at := range holdRetimable(t, n) {
			made, code := holdRetimed(t, n, at)
			if code == impl.ErrTwice {
				counts["twice"]++
				continue
			}
			holdSameRows(t, n, made, steps)
			counts[fmt.Sprint("op ", n.Cells[at].Op, n.Cells[at].Signed)]++
			counts["again"] += holdAgain(t, w, n, made, steps)
		}
	}
	all := slices.DeleteFunc(allCellOps(), func(what string) bool {
		return slices.Contains([]string{fmt.Sprint("op ", impl.OpBits, false), fmt.Sprint("op ", impl.OpIn, false), fmt.Sprint("op ", impl.OpReg, false)}, what)
	})
	wantsOften(t, counts, 10, append(all, "again", "twice"))
}

// holdAgain retimes a netlist up to five times more, anywhere, and counts how often that was done.
func holdAgain(t *testing.T, w *wirer, n, made impl.Net, steps []impl.Step) int {
	t.Helper()
	count := 0
	for range 5 {
		all := holdRetimable(t, made)
		if len(all) == 0 {
			break
		}
		more, code := holdRetimed(t, made, all[w.below(len(all))])
		if code != impl.OK {
			break
		}
		made = more
		holdSameRows(t, n, made, steps)
		count++
	}
	return count
}

// What was retimed can be optimised, and what was optimised retimed.
func TestRetimedAndOptimised(t *testing.T) {
	done := 0
	for seed := range uint64(60) {
		s := smithOf(seed+300, 0)
		n, _ := impl.Lower(s.design())
		steps := s.steps(n, 1+s.below(8))
		small, _ := holdOptimised(t, n, map[string]int{})
		all := holdRetimable(t, small)
		for range min(len(all), 4) {
			made, code := holdRetimed(t, small, all[s.below(len(all))])
			if code != impl.OK {
				continue
			}
			done++
			holdSameRows(t, n, made, steps)
			last, _ := holdOptimised(t, made, map[string]int{})
			holdSameRows(t, n, last, steps)
		}
	}
	if done < 100 {
		t.Errorf("only %d", done)
	}
}

// Promise 1: no argument is written into, not behind its end either, and no two lists of an answer share memory.
func TestRetimeKeepsArguments(t *testing.T) {
	done := 0
	for seed := range uint64(300) {
		w := wirerOf(seed + 5000)
		n := roomyNet(w.regsNet(1 + w.below(30)))
		told := wholeNet(n)
		all := impl.Retimable(n)
		for _, at := range all {
			code := holdKept(t, n, func(n impl.Net) (impl.Net, int) { return impl.Retime(n, at) })
			done += numberIf(code == impl.OK)
		}
		for i := range all[:cap(all)] {
			all[:cap(all)][i] = -7
		}
		if slices.Contains(impl.Retimable(n), -7) || wholeNet(n) != told {
			t.Fatalf("%s: two answers share memory", told)
		}
	}
	if done < 200 {
		t.Errorf("only %d", done)
	}
}
