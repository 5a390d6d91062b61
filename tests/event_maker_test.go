package tests

import (
	"fmt"
	"strings"

	"loop.example/g00031/impl"
)

// bencher makes flat designs that run: few signals, so that processes meet.
type bencher struct {
	choices
	f impl.Flat
}

func bencherOf(seed uint64) *bencher {
	return &bencher{choices: choices{seed: seed*0x9e3779b97f4a7c15 | 1}}
}

func (b *bencher) bits(width int, letters string) string {
	var text strings.Builder
	for range width {
		text.WriteByte(letters[b.below(len(letters))])
	}
	return text.String()
}

func (b *bencher) letters() string { return b.oneOf("01", "01", "01", "01", "01xz") }

func (b *bencher) signals() {
	add := func(name string, kind, width, depth int, init string) {
		b.f.Signals = append(b.f.Signals, impl.Signal{Name: name, Kind: kind, Width: width, Depth: depth, Init: init})
	}
	add("clk", impl.SigIn, 1, 0, b.bits(1, b.letters()))
	add("a", impl.SigIn, 3, 0, b.bits(3, b.letters()))
	add("y", impl.SigOut, 3, 0, b.bits(3, b.oneOf("z", "z", "01xz")))
	add("w", impl.SigWire, 2, 0, b.bits(2, b.oneOf("z", "z", "01xz")))
	add("k", impl.SigWire, 1, 0, "z")
	add("r", impl.SigReg, 4, 0, b.bits(4, b.letters()))
	add("q", impl.SigReg, 2, 0, b.bits(2, b.letters()))
	add("c", impl.SigReg, 1, 0, b.bits(1, b.letters()))
	add("m", impl.SigMem, 2, 1+b.below(4), b.bits(2, b.letters()))
	add("n", impl.SigMem, 1, 2, b.bits(1, b.letters()))
	if b.below(8) == 0 {
		add("wide", impl.SigReg, 64, 0, b.bits(64, b.letters()))
	}
}

// pick is a signal of one of these kinds.
func (b *bencher) pick(kinds ...int) int {
	for {
		sig := b.below(len(b.f.Signals))
		for _, kind := range kinds {
			if b.f.Signals[sig].Kind == kind {
				return sig
			}
		}
	}
}

// fitted is an Ex brought to a width.
func (c *choices) fitted(e impl.Ex, width int) impl.Ex {
	if e.Width == width {
		return e
	}
	if e.Width > width && c.below(2) == 0 {
		return impl.Ex{Op: impl.OpPart, Width: width, N: c.below(e.Width - width + 1), Kids: []impl.Ex{e}}
	}
	return impl.Ex{Op: impl.OpSize, Width: width, Signed: e.Width < width && c.below(2) == 0, Kids: []impl.Ex{e}}
}

func (b *bencher) ex(width, deep int) impl.Ex {
	kind := b.below(12)
	if deep == 0 {
		kind = b.below(5)
	}
	kid := func(width int) impl.Ex { return b.ex(width, deep-1) }
	switch {
	case kind == 0:
		return bitsEx(b.bits(width, b.letters()))
	case kind < 4 || kind == 4 && deep == 0:
		sig := b.pick(impl.SigIn, impl.SigOut, impl.SigWire, impl.SigReg)
		return b.fitted(sigEx(sig, b.f.Signals[sig].Width), width)
	case kind == 4:
		mem := b.pick(impl.SigMem)
		return b.fitted(impl.Ex{Op: impl.OpMem, Width: b.f.Signals[mem].Width, N: mem, Kids: []impl.Ex{kid(1 + b.below(3))}}, width)
	case kind == 5:
		sig := b.pick(impl.SigIn, impl.SigOut, impl.SigWire, impl.SigReg)
		return b.fitted(impl.Ex{Op: impl.OpPick, Width: 1, N: sig, Kids: []impl.Ex{kid(1 + b.below(3))}}, width)
	case kind == 6:
		return ex(impl.OpChoose, width, kid(1), kid(width), kid(width))
	case kind == 7 && width > 1:
		low := 1 + b.below(width-1)
		return ex(impl.OpJoin, width, kid(width-low), kid(low))
	case kind == 8:
		return ex([]int{impl.OpNot, impl.OpNeg}[b.below(2)], width, kid(width))
	case kind == 9:
		op := []int{impl.OpEq, impl.OpNe, impl.OpSame, impl.OpLt, impl.OpLe, impl.OpBoth, impl.OpEither}[b.below(7)]
		same := 1 + b.below(3)
		e := ex(op, 1, kid(same), kid(same))
		e.Signed = (op == impl.OpLt || op == impl.OpLe) && b.below(2) == 0
		return b.fitted(e, width)
	case kind == 10:
		op := []int{impl.OpShl, impl.OpShr, impl.OpSar}[b.below(3)]
		return ex(op, width, kid(width), kid(1+b.below(3)))
	}
	op := []int{impl.OpAnd, impl.OpOr, impl.OpXor, impl.OpAdd, impl.OpSub, impl.OpMul, impl.OpDiv, impl.OpRem}[b.below(8)]
	e := ex(op, width, kid(width), kid(width))
	e.Signed = (op == impl.OpDiv || op == impl.OpRem) && b.below(2) == 0
	return e
}

// set is of a whole signal, a part of it, a bit or a word by an index.
func (b *bencher) set(kind int, indexed bool, kinds ...int) impl.St {
	sig := b.pick(kinds...)
	s := b.f.Signals[sig]
	if s.Kind == impl.SigMem {
		return setSt(kind, sig, 0, b.ex(s.Width, 2), b.ex(1+b.below(3), 1))
	}
	switch b.below(3) {
	case 0:
		wide := 1 + b.below(s.Width)
		return setSt(kind, sig, b.below(s.Width-wide+1), b.ex(wide, 2))
	case 1:
		if indexed {
			return setSt(kind, sig, 0, b.ex(1, 2), b.ex(1+b.below(3), 1))
		}
	}
	return setSt(kind, sig, 0, b.ex(s.Width, 2))
}

func (b *bencher) block(proc, deep, most int) impl.St {
	block := blockSt()
	for range b.below(most + 1) {
		block.Kids = append(block.Kids, b.statement(proc, deep))
	}
	return block
}

func (b *bencher) statement(proc, deep int) impl.St {
	kind := b.below(10)
	switch {
	case proc == impl.ProcStart && kind < 4:
		if b.below(12) == 0 {
			return impl.St{Kind: impl.StStop}
		}
		return impl.St{Kind: impl.StWait, N: []int{0, 0, 1, 2, 3, 5}[b.below(6)]}
	case kind == 4 && deep > 0:
		return b.block(proc, deep-1, 2)
	case kind == 5 && deep > 0:
		return ifSt(b.ex(1+b.below(2), 2), b.block(proc, deep-1, 2), b.block(proc, deep-1, 2))
	case kind >= 6 && proc != impl.ProcComb:
		return b.set(impl.StLater, true, impl.SigReg, impl.SigMem)
	}
	return b.set(impl.StSet, true, impl.SigReg, impl.SigMem)
}

func (b *bencher) proc() {
	p := impl.Proc{Kind: 1 + b.below(5), Clock: -1}
	switch p.Kind {
	case impl.ProcAssign:
		p.Body = b.set(impl.StSet, false, impl.SigWire, impl.SigOut)
	case impl.ProcCheck:
		p.Name = fmt.Sprint("check", len(b.f.Procs))
		p.Body = impl.St{Kind: impl.StCheck, Exs: []impl.Ex{b.ex(1+b.below(3), 2)}}
	case impl.ProcOn:
		p.Clock = []int{0, 0, 4, 7}[b.below(4)]
		p.Body = b.block(p.Kind, 2, 4)
	case impl.ProcStart:
		p.Body = b.block(p.Kind, 2, 9)
	default:
		p.Body = b.block(p.Kind, 2, 2)
	}
	b.f.Procs = append(b.f.Procs, p)
}

func (b *bencher) design() impl.Flat {
	b.signals()
	for range b.below(9) {
		b.proc()
	}
	return b.f
}

func (b *bencher) stims() []impl.Stim {
	var all []impl.Stim
	time := 0
	for range b.below(16) {
		time += b.below(3)
		sig := b.below(2)
		all = append(all, impl.Stim{Time: time, Sig: sig, Bits: b.bits(1+2*sig, b.letters())})
	}
	return all
}

// order is some order of the processes.
func (b *bencher) order() []int {
	all := rising(len(b.f.Procs))
	for i := range all {
		other := b.below(i + 1)
		all[i], all[other] = all[other], all[i]
	}
	return all
}
