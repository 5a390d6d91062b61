package tests

import (
	"fmt"
	"slices"
	"testing"

	"loop.example/g00031/impl"
)

func netShown(n impl.Net) string { return fmt.Sprintf("%+v", n) }

func rowsShown(rows []impl.Row) string { return fmt.Sprintf("%+v", rows) }

// holdLowered holds a netlist against what is told of it.
func holdLowered(t *testing.T, f impl.Flat) (impl.Net, int) {
	t.Helper()
	got, code := impl.Lower(f)
	want, wantCode := loweringTold(f)
	if code != wantCode || netShown(got) != netShown(want) {
		t.Fatalf("%v\ncode %d, want %d\n%s, want\n%s", f, code, wantCode, netShown(got), netShown(want))
	}
	if code == impl.OK && (!impl.NetOK(got) || !netTold(got)) {
		t.Fatalf("%v\nis lowered to no netlist:\n%s", f, netShown(got))
	}
	return got, code
}

// holdNetRun holds a run of a netlist against what is told of it.
func holdNetRun(t *testing.T, n impl.Net, steps []impl.Step) ([]impl.Row, int) {
	t.Helper()
	got, code := impl.NetRun(n, steps)
	want, wantCode := netRunTold(n, steps)
	if code != wantCode || rowsShown(got) != rowsShown(want) {
		t.Fatalf("%s\n%v:\ncode %d, want %d\n%s, want\n%s", netShown(n), steps, code, wantCode, rowsShown(got), rowsShown(want))
	}
	return got, code
}

// stimsOfSteps change the inputs while all clocks are 0, then let those that tick go up and down: three times for each step.
func stimsOfSteps(f impl.Flat, n impl.Net, steps []impl.Step) []impl.Stim {
	var all []impl.Stim
	for i, step := range steps {
		for _, name := range n.Clocks {
			all = append(all, impl.Stim{Time: 3 * i, Sig: sigOf(f, name), Bits: "0"})
		}
		for in, port := range n.Ins {
			all = append(all, impl.Stim{Time: 3 * i, Sig: sigOf(f, port.Name), Bits: step.Ins[in]})
		}
		for clock, name := range n.Clocks {
			all = append(all, impl.Stim{Time: 3*i + 1, Sig: sigOf(f, name), Bits: letterIf(step.Ticks[clock])})
		}
		for _, name := range n.Clocks {
			all = append(all, impl.Stim{Time: 3*i + 2, Sig: sigOf(f, name), Bits: "0"})
		}
	}
	return all
}

// rowsOfRun are what a run says of outs, checks and registers when each step's clocks have ticked.
func rowsOfRun(f impl.Flat, n impl.Net, r impl.SimRes, steps int) []impl.Row {
	values := map[string]string{}
	put := func(sig, word int, bits string) {
		name := f.Signals[sig].Name
		if f.Signals[sig].Kind == impl.SigMem {
			name += fmt.Sprint("[", word, "]")
		}
		values[name] = bits
	}
	for sig, s := range f.Signals {
		for word := range max(s.Depth, 1) {
			put(sig, word, s.Init)
		}
	}
	var rows []impl.Row
	changes := r.Changes
	for i := range steps {
		for len(changes) > 0 && changes[0].Time <= 3*i+1 {
			put(changes[0].Sig, changes[0].Word, changes[0].Bits)
			changes = changes[1:]
		}
		var row impl.Row
		for _, out := range n.Outs {
			row.Outs = append(row.Outs, values[out.Name])
		}
		for _, check := range n.Checks {
			failed := slices.Contains(r.Fails, impl.Fail{Time: 3*i + numberIf(len(n.Clocks) > 0), Name: check.Name})
			row.Checks = append(row.Checks, letterIf(!failed))
		}
		for _, reg := range n.Regs {
			row.Regs = append(row.Regs, values[reg.Name])
		}
		rows = append(rows, row)
	}
	return rows
}

// holdStepped: promise 7 of one design.
func holdStepped(t *testing.T, f impl.Flat, n impl.Net, steps []impl.Step, order []int) {
	t.Helper()
	rows, code := impl.NetRun(n, steps)
	r, simCode := impl.Simulate(f, stimsOfSteps(f, n, steps), 3*len(steps), order)
	if code != impl.OK || simCode != impl.OK {
		t.Fatalf("%s%s: codes %d, %d", signalsShown(f), procsShown(f), code, simCode)
	}
	told := rowsOfRun(f, n, r, len(steps))
	if rowsShown(rows) != rowsShown(told) {
		t.Fatalf("%s%s\n%s\n%v:\n%s, but the simulator says\n%s", signalsShown(f), procsShown(f), netShown(n), steps, rowsShown(rows), rowsShown(told))
	}
}

// Promise 7, and each netlist as told.
func TestLoweredAsSimulated(t *testing.T) {
	counts := map[string]int{}
	for seed := range uint64(500) {
		s := smithOf(seed+1, 0)
		f := s.design()
		n, code := holdLowered(t, f)
		if code != impl.OK {
			t.Fatalf("%s%s: code %d", signalsShown(f), procsShown(f), code)
		}
		steps := s.steps(n, 1+s.below(8))
		holdNetRun(t, n, steps)
		holdStepped(t, f, n, steps, nil)
		holdStepped(t, f, n, steps, mixed(&s.choices, rising(len(f.Procs))))
		for _, c := range n.Cells {
			counts[fmt.Sprint("op ", c.Op, c.Signed)]++
		}
		counts[fmt.Sprint("clocks ", len(n.Clocks))]++
	}
	wantsOften(t, counts, 50, append(allCellOps(), "clocks 1", "clocks 2"))
}

// allCellOps are all operations of cells, signed or not where that is looked at.
func allCellOps() []string {
	all := []string{fmt.Sprint("op ", impl.OpLt, true), fmt.Sprint("op ", impl.OpLe, true), fmt.Sprint("op ", impl.OpSize, true)}
	for op := impl.OpAnd; op <= impl.OpReg; op++ {
		switch op {
		case impl.OpDiv, impl.OpRem, impl.OpSame, impl.OpSig, impl.OpMem, impl.OpPick:
		default:
			all = append(all, fmt.Sprint("op ", op, false))
		}
	}
	return all
}

// wantsOften fails where one of what was counted is too seldom.
func wantsOften(t *testing.T, counts map[string]int, least int, all []string) {
	t.Helper()
	for _, what := range all {
		if counts[what] < least {
			t.Errorf("%s: only %d", what, counts[what])
		}
	}
}

// Designs with faults, some of them with several.
func TestFaultsAsTold(t *testing.T) {
	codes := map[int]int{}
	for seed := range uint64(2400) {
		s := smithOf(seed+70000, []int{300, 120, 60}[seed%3])
		_, code := holdLowered(t, s.design())
		codes[code]++
	}
	for _, code := range []int{impl.OK, impl.ErrTwice, impl.ErrKind, impl.ErrLoop, impl.ErrLatch, impl.ErrPlain, impl.ErrOpen} {
		if codes[code] < 8 {
			t.Errorf("code %d: only %d", code, codes[code])
		}
	}
}

// A design with one piece changed is lowered as told, or is none.
func TestBentLowerings(t *testing.T) {
	codes := map[int]int{}
	for seed := range uint64(2000) {
		s := smithOf(seed+9000, 0)
		f := s.design()
		piecesOf(&f).bend(&s.choices)
		_, code := holdLowered(t, f)
		codes[code]++
	}
	if codes[impl.OK] < 300 || codes[impl.ErrBad] < 1000 || codes[impl.ErrTwice] < 50 {
		t.Errorf("codes %v", codes)
	}
}

// Designs of text are lowered as told, too.
func TestElaboratedAreLowered(t *testing.T) {
	codes := map[int]int{}
	for seed := range uint64(1000) {
		d := designerOf(seed+9, 0)
		text, top := d.design()
		n, _, _ := impl.ParseDesign(text)
		f, code := impl.Elaborate(n, top, d.params())
		if code != impl.OK {
			continue
		}
		_, code = holdLowered(t, f)
		codes[code]++
	}
	if codes[impl.ErrPlain] < 100 || codes[impl.ErrOpen] < 100 || codes[impl.ErrBad] != 0 {
		t.Errorf("codes %v", codes)
	}
}

// A small processor of 4 bits, which counts down from an input and tells it.
const countDown = `module top ( in clk , in [ 4 ] i , out [ 4 ] o , out [ 4 ] pc , out h )
enum nop , ldi , inp , outp , dec , jz , jmp , hlt ;
reg [ 4 ] rpc = 0 ; reg [ 4 ] ra = 0 ; reg [ 4 ] ro = 0 ; reg rh = 0 ; reg [ 8 ] w ;
comb { w = 0 ; case rpc { 0 : { w = 8'h20 ; } 1 : { w = 8'h30 ; } 2 : { w = 8'h56 ; } 3 : { w = 8'h40 ; } 4 : { w = 8'h61 ; } 6 : { w = 8'h70 ; } } }
on clk { if ! rh { rpc <= rpc + 1 ; case w [ 7 : 4 ] {
ldi : { ra <= w [ 3 : 0 ] ; } inp : { ra <= i ; } outp : { ro <= ra ; } dec : { ra <= ra - 1 ; }
jz : { if ra == 0 { rpc <= w [ 3 : 0 ] ; } } jmp : { rpc <= w [ 3 : 0 ] ; } hlt : { rh <= 1 ; } } } }
assign o = ro ; assign pc = rpc ; assign h = rh ; check small = ro < 4 ; end`

func TestLoweredProcessor(t *testing.T) {
	n := netOf(t, countDown)
	steps := slices.Repeat(stepsOf("0011/t"), 18)
	f := flatOf(t, countDown)
	holdStepped(t, f, n, steps, nil)
	rows, _ := holdNetRun(t, n, steps)
	var told []string
	for _, row := range rows {
		told = append(told, row.Outs[0]+row.Outs[2])
	}
	want := slices.Concat(slices.Repeat([]string{"00000"}, 1), slices.Repeat([]string{"00110"}, 4), slices.Repeat([]string{"00100"}, 4), slices.Repeat([]string{"00010"}, 4), slices.Repeat([]string{"00000"}, 2), slices.Repeat([]string{"00001"}, 3))
	if !slices.Equal(told, want) {
		t.Errorf("%v, want %v", told, want)
	}
}

// Promise 1: no argument is written into, not behind its end either, and no two lists of an answer share memory.
func TestLowerKeepsArguments(t *testing.T) {
	for seed := range uint64(100) {
		f := roomyFlat(smithOf(seed+4000, 0).design())
		told := roomShown(f)
		n, code := impl.Lower(f)
		again, codeAgain := impl.Lower(f)
		if roomShown(f) != told {
			t.Fatalf("%s: the arguments were changed", procsShown(f))
		}
		if code != codeAgain || netShown(n) != netShown(again) {
			t.Fatalf("%s: another answer", procsShown(f))
		}
		seen := map[any]bool{}
		netApart(t, n, seen)
		netApart(t, again, seen)
	}
}

// netApart tells where two lists share memory, behind their ends too.
func netApart(t *testing.T, n impl.Net, seen map[any]bool) {
	t.Helper()
	put := func(place any) {
		if seen[place] {
			t.Fatal("two lists share memory")
		}
		seen[place] = true
	}
	for i := range n.Ins[:cap(n.Ins)] {
		put(&n.Ins[:cap(n.Ins)][i])
	}
	for i := range n.Clocks[:cap(n.Clocks)] {
		put(&n.Clocks[:cap(n.Clocks)][i])
	}
	for i := range n.Regs[:cap(n.Regs)] {
		put(&n.Regs[:cap(n.Regs)][i])
	}
	for i := range n.Cells[:cap(n.Cells)] {
		put(&n.Cells[:cap(n.Cells)][i])
	}
	for _, list := range [][]impl.NetOut{n.Outs, n.Checks} {
		for i := range list[:cap(list)] {
			put(&list[:cap(list)][i])
		}
	}
	for _, c := range n.Cells {
		for i := range c.In[:cap(c.In)] {
			put(&c.In[:cap(c.In)][i])
		}
	}
}

func TestWrongFlatsLowered(t *testing.T) {
	loop := ex(impl.OpNot, 1, bitsEx("0"))
	loop.Kids[0] = loop
	block := blockSt(blockSt())
	block.Kids[0] = block
	many := bitsEx("0")
	for range 300 {
		many = ex(impl.OpAnd, 1, many, many)
	}
	wide := theFlat()
	wide.Signals[1].Width = 65
	for what, f := range map[string]impl.Flat{
		"a wide signal": wide, "an empty signal": {Signals: make([]impl.Signal, 1)}, "an empty process": {Procs: make([]impl.Proc, 1)}, "an Ex within itself": exFlat(loop), "a St within itself": stFlat(impl.ProcComb, block),
		"more than can be counted": exFlat(many), "very many signals": {Signals: make([]impl.Signal, 1<<20)}, "very many processes": {Procs: make([]impl.Proc, 1<<20)},
	} {
		if n, code := impl.Lower(f); code != impl.ErrBad || netShown(n) != netShown(impl.Net{}) {
			t.Errorf("%s: code %d", what, code)
		}
	}
	wantsLowered(t, "nothing", impl.Flat{}, impl.OK)
	wantsLowered(t, "one of each kind", theFlat(), impl.ErrPlain)
}
