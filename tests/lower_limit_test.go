package tests

import (
	"fmt"
	"strings"
	"testing"

	"loop.example/g00031/impl"
)

// flatSignal is a signal that begins as 0, if it is none that is driven.
func flatSignal(name string, kind, width, depth int) impl.Signal {
	return impl.Signal{Name: name, Kind: kind, Width: width, Depth: depth, Init: zeros(width)}
}

func assignProc(sig int, e impl.Ex) impl.Proc {
	return impl.Proc{Kind: impl.ProcAssign, Clock: -1, Body: setSt(impl.StSet, sig, 0, e)}
}

func onProc(clock int, sts ...impl.St) impl.Proc {
	return impl.Proc{Kind: impl.ProcOn, Clock: clock, Body: blockSt(sts...)}
}

// turnedOften is an in turned so often, over wires of at most 390 times each, and an out of it.
func turnedOften(count int) impl.Flat {
	f := impl.Flat{Signals: []impl.Signal{flatSignal("a", impl.SigIn, 1, 0), flatSignal("y", impl.SigOut, 1, 0)}}
	at := 0
	for count > 0 {
		e := sigEx(at, 1)
		for range min(count, 390) {
			e = ex(impl.OpNot, 1, e)
		}
		count -= min(count, 390)
		at = len(f.Signals)
		f.Signals = append(f.Signals, flatSignal(fmt.Sprint("w", at), impl.SigWire, 1, 0))
		f.Procs = append(f.Procs, assignProc(at, e))
	}
	f.Procs = append(f.Procs, assignProc(1, sigEx(at, 1)))
	return f
}

func wantsLowered(t *testing.T, what string, f impl.Flat, want int) impl.Net {
	t.Helper()
	n, code := holdLowered(t, f)
	if code != want {
		t.Errorf("%s: code %d, want %d", what, code, want)
	}
	return n
}

func TestMaxCells(t *testing.T) {
	n := wantsLowered(t, "4096", turnedOften(4095), impl.OK)
	if len(n.Cells) != 4096 || n.Outs[0].Cell != 4095 {
		t.Errorf("%d cells, the out is %d", len(n.Cells), n.Outs[0].Cell)
	}
	wantsLowered(t, "4097", turnedOften(4096), impl.ErrMany)
	wantsLowered(t, "5000", turnedOften(5000), impl.ErrMany)
	// what nobody needs does not count, nor what is the same
	f := turnedOften(4095)
	first := len(f.Signals)
	f.Signals = append(f.Signals, flatSignal("w", impl.SigWire, 1, 0), flatSignal("z", impl.SigOut, 1, 0), flatSignal("clk", impl.SigIn, 1, 0), flatSignal("r", impl.SigReg, 1, 0))
	with := func(check, out, next impl.Ex) impl.Flat {
		more := []impl.Proc{
			assignProc(first, ex(impl.OpNeg, 1, sigEx(0, 1))), assignProc(first+1, out), onProc(first+2, setSt(impl.StLater, first+3, 0, next)),
			{Kind: impl.ProcCheck, Clock: -1, Name: "c", Body: impl.St{Kind: impl.StCheck, Exs: []impl.Ex{check}}},
		}
		return impl.Flat{Signals: f.Signals, Procs: append(more, f.Procs...)}
	}
	a, more := ex(impl.OpNot, 1, sigEx(0, 1)), ex(impl.OpAny, 1, sigEx(0, 1))
	wantsLowered(t, "4096 and the same ones", with(a, a, a), impl.OK)
	wantsLowered(t, "one more by a check", with(more, a, a), impl.ErrMany)
	wantsLowered(t, "one more by an out", with(a, more, a), impl.ErrMany)
	wantsLowered(t, "one more by a Next", with(a, a, more), impl.ErrMany)
}

// memories are so many words, 64 of each but the last, all of which an on process sets.
func memories(words int) impl.Flat {
	f := impl.Flat{Signals: []impl.Signal{flatSignal("clk", impl.SigIn, 1, 0), flatSignal("a", impl.SigIn, 3, 0)}}
	for words > 0 {
		depth := min(words, 64)
		words -= depth
		at := len(f.Signals)
		f.Signals = append(f.Signals, flatSignal(fmt.Sprint("m", at), impl.SigMem, 3, depth))
		f.Procs = append(f.Procs, onProc(0, setSt(impl.StLater, at, 0, sigEx(1, 3), bitsEx("0"))))
	}
	return f
}

func TestMaxRegs(t *testing.T) {
	n := wantsLowered(t, "256", memories(256), impl.OK)
	if len(n.Regs) != 256 || n.Regs[255].Name != "m5[63]" {
		t.Errorf("%d registers, the last is %s", len(n.Regs), n.Regs[255].Name)
	}
	wantsLowered(t, "257", memories(257), impl.ErrMany)
	wantsLowered(t, "255 memories of 64", memories(254*64), impl.ErrMany)
	// states that no on process sets do not count
	f := memories(256)
	f.Signals = append(f.Signals, flatSignal("r", impl.SigReg, 1, 0), flatSignal("p", impl.SigReg, 1, 0), flatSignal("h", impl.SigMem, 1, 64))
	f.Procs = append(f.Procs, impl.Proc{Kind: impl.ProcComb, Clock: -1, Body: blockSt(setSt(impl.StSet, len(f.Signals)-2, 0, bitsEx("0")))})
	wantsLowered(t, "256 and other states", f, impl.OK)
	f.Procs = append(f.Procs, onProc(0, setSt(impl.StSet, len(f.Signals)-3, 0, bitsEx("0"))))
	wantsLowered(t, "256 and a reg", f, impl.ErrMany)
}

func TestMaxClocks(t *testing.T) {
	for _, count := range []int{0, 1, 7, 8, 9, 20} {
		var f impl.Flat
		for i := range 20 {
			f.Signals = append(f.Signals, flatSignal(fmt.Sprint("c", i), impl.SigIn, 1, 0))
		}
		for i := range count {
			wire := len(f.Signals)
			f.Signals = append(f.Signals, flatSignal(fmt.Sprint("w", i), impl.SigWire, 1, 0), flatSignal(fmt.Sprint("r", i), impl.SigReg, 1, 0))
			f.Procs = append(f.Procs, assignProc(wire, sigEx(19-i, 1)), onProc(wire, setSt(impl.StLater, wire+1, 0, bitsEx("1"))), onProc(19-i))
		}
		want := impl.OK
		if count > 8 {
			want = impl.ErrMany
		}
		n := wantsLowered(t, fmt.Sprint(count), f, want)
		if want == impl.OK && (len(n.Clocks) != count || len(n.Ins) != 20-count || len(n.Regs) != count || count > 0 && n.Regs[0].Clock != count-1) {
			t.Errorf("%d: %s", count, netShown(n))
		}
		if want == impl.OK {
			continue
		}
		// ahead of clocks that are read, behind roots that are none
		f.Procs = append(f.Procs, impl.Proc{Kind: impl.ProcCheck, Clock: -1, Name: "c", Body: impl.St{Kind: impl.StCheck, Exs: []impl.Ex{sigEx(19, 1)}}})
		wantsLowered(t, fmt.Sprint(count, ", one is read"), f, impl.ErrMany)
		f.Procs = append(f.Procs, onProc(21))
		wantsLowered(t, fmt.Sprint(count, ", one is a reg"), f, impl.ErrPlain)
	}
}

func TestLongRegisters(t *testing.T) {
	for _, c := range []struct {
		name, depth int
		want        int
	}{{1, 64, impl.OK}, {996, 64, impl.OK}, {997, 10, impl.OK}, {997, 11, impl.ErrLong}, {998, 1, impl.ErrLong}, {1000, 64, impl.ErrLong}} {
		f := impl.Flat{Signals: []impl.Signal{flatSignal("clk", impl.SigIn, 1, 0), flatSignal(strings.Repeat("m", c.name), impl.SigMem, 2, c.depth)}}
		wantsLowered(t, fmt.Sprint("not set: ", c.name, c.depth), f, impl.OK)
		f.Procs = []impl.Proc{onProc(0, setSt(impl.StLater, 1, 0, bitsEx("01"), bitsEx("0")))}
		n := wantsLowered(t, fmt.Sprint(c.name, " bytes, ", c.depth, " words"), f, c.want)
		if c.want == impl.OK && len(n.Regs[c.depth-1].Name) > 1000 {
			t.Errorf("a name of %d bytes", len(n.Regs[c.depth-1].Name))
		}
	}
	// all other names may be as long as they were
	f := impl.Flat{
		Signals: []impl.Signal{flatSignal(strings.Repeat("c", 1000), impl.SigIn, 1, 0), flatSignal(strings.Repeat("a", 1000), impl.SigIn, 1, 0), flatSignal(strings.Repeat("r", 1000), impl.SigReg, 1, 0), flatSignal(strings.Repeat("y", 1000), impl.SigOut, 1, 0)},
		Procs:   []impl.Proc{onProc(0, setSt(impl.StLater, 2, 0, sigEx(1, 1))), assignProc(3, sigEx(2, 1)), {Kind: impl.ProcCheck, Clock: -1, Name: strings.Repeat("k", 1000), Body: impl.St{Kind: impl.StCheck, Exs: []impl.Ex{sigEx(1, 1)}}}},
	}
	wantsLowered(t, "long names", f, impl.OK)
}

func TestRegistersOfOneName(t *testing.T) {
	f := impl.Flat{
		Signals: []impl.Signal{flatSignal("clk", impl.SigIn, 1, 0), flatSignal("m", impl.SigMem, 1, 3), flatSignal("m[2]", impl.SigReg, 1, 0), flatSignal("m[1]", impl.SigOut, 1, 0), flatSignal("m[0]", impl.SigReg, 1, 0)},
		Procs: []impl.Proc{
			onProc(0, setSt(impl.StLater, 1, 0, bitsEx("1"), bitsEx("0"))), assignProc(3, sigEx(4, 1)),
			{Kind: impl.ProcComb, Clock: -1, Body: blockSt(setSt(impl.StSet, 4, 0, bitsEx("1")))},
		},
	}
	wantsLowered(t, "no registers of one name", f, impl.OK)
	f.Procs = append(f.Procs, onProc(0, setSt(impl.StLater, 2, 0, bitsEx("1"))))
	wantsLowered(t, "two of one name", f, impl.ErrTwice)
	f.Signals[2].Name = "m[3]"
	wantsLowered(t, "the next word's name", f, impl.OK)
	f.Signals[2].Name = "m[02]"
	wantsLowered(t, "another way to write it", f, impl.OK)
	f.Signals[1].Depth, f.Signals[2].Name = 11, "m[10]"
	wantsLowered(t, "a name of two digits", f, impl.ErrTwice)
	f.Signals[1].Name = strings.Repeat("m", 998)
	wantsLowered(t, "too long, and no name twice", f, impl.ErrLong)
}

func TestMaxSignalsLowered(t *testing.T) {
	// a clock over as many wires as there can be, each handed on by a process ahead of the last one's
	var f impl.Flat
	f.Signals = append(f.Signals, flatSignal("clk", impl.SigIn, 1, 0))
	for i := 1; i < 255; i++ {
		f.Signals = append(f.Signals, flatSignal(fmt.Sprint("w", i), impl.SigWire, 1, 0))
		f.Procs = append([]impl.Proc{assignProc(i, sigEx(i-1, 1))}, f.Procs...)
	}
	f.Signals = append(f.Signals, flatSignal("r", impl.SigReg, 1, 0))
	f.Procs = append(f.Procs, onProc(254, setSt(impl.StLater, 255, 0, ex(impl.OpNot, 1, sigEx(255, 1)))))
	n := wantsLowered(t, "254 wires", f, impl.OK)
	if fmt.Sprint(n.Clocks, len(n.Ins), len(n.Regs), len(n.Cells)) != "[clk] 0 1 2" {
		t.Errorf("%s", netShown(n))
	}
	steps := stepsOf("/t; /-; /t; /t")
	holdStepped(t, f, n, steps, nil)
	f.Procs[100].Body.Exs[0] = ex(impl.OpNot, 1, f.Procs[100].Body.Exs[0])
	wantsLowered(t, "one of them turned", f, impl.ErrPlain)
	// as many outs and checks as there can be
	f = impl.Flat{}
	for i := range impl.MaxSignals {
		f.Signals = append(f.Signals, flatSignal(fmt.Sprint("y", i), impl.SigOut, 1, 0))
		f.Procs = append(f.Procs, assignProc(i, bitsEx(fmt.Sprint(i%2))))
	}
	n = wantsLowered(t, "256 outs", f, impl.OK)
	if len(n.Outs) != 256 || len(n.Cells) != 2 || n.Outs[255].Cell != 1 {
		t.Errorf("%d outs, %d cells", len(n.Outs), len(n.Cells))
	}
	f = impl.Flat{Signals: []impl.Signal{flatSignal("a", impl.SigIn, 64, 0)}}
	for i := range impl.MaxProcs {
		f.Procs = append(f.Procs, impl.Proc{Kind: impl.ProcCheck, Clock: -1, Name: fmt.Sprint(i), Body: impl.St{Kind: impl.StCheck, Exs: []impl.Ex{sigEx(0, 64)}}})
	}
	n = wantsLowered(t, "256 checks", f, impl.OK)
	if len(n.Checks) != 256 || len(n.Cells) != 2 || n.Checks[255].Cell != 1 {
		t.Errorf("%d checks, %d cells", len(n.Checks), len(n.Cells))
	}
	f.Procs = append(f.Procs, f.Procs[0])
	f.Procs[256].Name = "more"
	wantsLowered(t, "257 checks", f, impl.ErrBad)
	f = impl.Flat{}
	for i := range impl.MaxSignals {
		f.Signals = append(f.Signals, flatSignal(fmt.Sprint("a", i), impl.SigIn, 1, 0))
	}
	if n := wantsLowered(t, "256 inputs", f, impl.OK); len(n.Ins) != 256 || len(n.Cells) != 0 {
		t.Errorf("%d inputs, %d cells", len(n.Ins), len(n.Cells))
	}
	f.Signals = append(f.Signals, flatSignal("more", impl.SigIn, 1, 0))
	wantsLowered(t, "257 inputs", f, impl.ErrBad)
}

// A loop through all processes, and a way that is as long but has an end.
func TestLongWays(t *testing.T) {
	var f impl.Flat
	for i := range 256 {
		f.Signals = append(f.Signals, flatSignal(fmt.Sprint("w", i), impl.SigWire, 1, 0))
		f.Procs = append(f.Procs, assignProc(i, sigEx((i+1)%256, 1)))
	}
	wantsLowered(t, "a loop of 256", f, impl.ErrLoop)
	f.Procs[99].Body.Exs[0] = bitsEx("1")
	wantsLowered(t, "a way of 256", f, impl.OK)
}

// Very many cells are made on the way to a netlist that has few, or too many.
func TestGreatestLowerings(t *testing.T) {
	nested := func(outs int) impl.Flat {
		f := impl.Flat{Signals: []impl.Signal{flatSignal("i", impl.SigIn, 6, 0), flatSignal("c", impl.SigMem, 6, 64)}}
		from := 0
		for k := range 12 {
			e := sigEx(from, 6)
			for range 390 {
				e = impl.Ex{Op: impl.OpMem, Width: 6, N: 1, Kids: []impl.Ex{e}}
			}
			from = len(f.Signals)
			kind := impl.SigWire
			if k < outs {
				kind = impl.SigOut
			}
			f.Signals = append(f.Signals, flatSignal(fmt.Sprint("w", k), kind, 6, 0))
			f.Procs = append(f.Procs, assignProc(from, e))
		}
		return f
	}
	if n, code := impl.Lower(nested(0)); code != impl.OK || len(n.Cells) != 0 {
		t.Errorf("nothing needed: code %d, %d cells", code, len(n.Cells))
	}
	if _, code := impl.Lower(nested(1)); code != impl.ErrMany {
		t.Errorf("one out: code %d", code)
	}
	branches := func(last impl.St) impl.Flat {
		f := memories(256)
		index := ex(impl.OpJoin, 6, sigEx(1, 3), sigEx(1, 3))
		inner, all := blockSt(), blockSt()
		for _, p := range f.Procs {
			inner.Kids = append(inner.Kids, setSt(impl.StSet, p.Body.Kids[0].N, 0, sigEx(1, 3), index))
		}
		for range 8 {
			s := inner
			for range 390 {
				s = ifSt(sigEx(1, 3), s, blockSt())
			}
			all.Kids = append(all.Kids, s)
		}
		f.Procs = []impl.Proc{onProc(0, all, last)}
		return f
	}
	if _, code := impl.Lower(branches(blockSt())); code != impl.ErrMany {
		t.Errorf("branches: code %d", code)
	}
	reset := blockSt()
	for sig := 2; sig < 6; sig++ {
		for word := range 64 {
			reset.Kids = append(reset.Kids, setSt(impl.StSet, sig, 0, bitsEx("101"), bitsEx(impl.BitsOf(word, 6))))
		}
	}
	if n, code := impl.Lower(branches(reset)); code != impl.OK || len(n.Cells) != 1 {
		t.Errorf("branches that come to nothing: code %d, %d cells", code, len(n.Cells))
	}
}
