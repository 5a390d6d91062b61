package tests

import (
	"fmt"
	"slices"
	"strings"

	"loop.example/g00031/impl"
)

// smith makes flat designs for hardware. Where slip is above 0, one of so many of its choices is a fault, or may be one.
type smith struct {
	choices
	slip     int
	f        impl.Flat
	numbers  map[string]int
	readable []int // what may be read where it is at work
	loose    []int // wires, outs and regs of comb processes that are set already, so that nothing goes round
	free     []int // what anybody may read
}

func smithOf(seed uint64, slip int) *smith {
	return &smith{choices: choices{seed: seed*0x9e3779b97f4a7c15 | 1}, slip: slip, numbers: map[string]int{}}
}

func (s *smith) slips() bool { return s.slip > 0 && s.below(s.slip) == 0 }

func mixed[T any](c *choices, list []T) []T {
	for i := range list {
		other := c.below(i + 1)
		list[i], list[other] = list[other], list[i]
	}
	return list
}

func (s *smith) bits(width int) string {
	var text strings.Builder
	for range width {
		text.WriteString(s.oneOf("0", "1"))
	}
	if s.slips() {
		return strings.Repeat(s.oneOf("x", "z"), width)
	}
	return text.String()
}

// signals stand in any order: clocks c*, ins a*, outs y*, wires w*, wires that are clocks k*, regs of comb processes p*, registers r*, registers that are set at once q*, states that nothing sets g*, memories m*, n* (set at once) and h* (not set).
func (s *smith) signals() {
	var list []impl.Signal
	add := func(name string, kind, width, depth int) {
		init := s.bits(width)
		if name[0] == 'p' || kind <= impl.SigWire {
			init = strings.Repeat(s.oneOf("x", "z", "0", "1"), width)
		}
		list = append(list, impl.Signal{Name: name, Kind: kind, Width: width, Depth: depth, Signed: s.below(2) == 0, Init: init})
	}
	for i, width := range []int{3, 1, 2} {
		add(fmt.Sprint("a", i), impl.SigIn, width, 0)
		add(fmt.Sprint("y", i), impl.SigOut, 1+s.below(4), 0)
		add(fmt.Sprint("w", i), impl.SigWire, width+1, 0)
		add(fmt.Sprint("p", i), impl.SigReg, width, 0)
		add(fmt.Sprint("r", i), impl.SigReg, width+s.below(2), 0)
	}
	for i := range 2 {
		add(fmt.Sprint("c", i), impl.SigIn, 1, 0)
		add(fmt.Sprint("k", i), impl.SigWire, 1, 0)
		add(fmt.Sprint("q", i), impl.SigReg, 1+s.below(4), 0)
	}
	add("g0", impl.SigReg, 3, 0)
	add("m0", impl.SigMem, 2, 2+s.below(4))
	add("n0", impl.SigMem, 1, 1+s.below(4))
	add("h0", impl.SigMem, 3, 4)
	if s.below(6) == 0 {
		add("g1", impl.SigReg, 64, 0)
		add("r3", impl.SigReg, 64, 0)
	}
	s.f.Signals = mixed(&s.choices, list)
	for number, signal := range s.f.Signals {
		s.numbers[signal.Name] = number
	}
	for number, signal := range s.f.Signals {
		if strings.Contains("argmh", signal.Name[:1]) {
			s.free = append(s.free, number)
		}
	}
}

// pick is a signal that may be read, a memory or none; -1 where there is none.
func (s *smith) pick(memory bool) int {
	list := s.readable
	if s.slips() {
		list = rising(len(s.f.Signals))
	}
	list = slices.DeleteFunc(slices.Clone(list), func(sig int) bool { return (s.f.Signals[sig].Kind == impl.SigMem) != memory })
	if len(list) == 0 {
		return -1
	}
	return list[s.below(len(list))]
}

// index is of words or bits that are so many.
func (s *smith) index(most, deep int) impl.Ex {
	wide := 0
	for 2<<wide <= most {
		wide++
	}
	if s.slips() {
		return s.ex(1+wide+s.below(2), deep)
	}
	if wide == 0 || s.below(3) == 0 {
		return bitsEx(impl.BitsOf(s.below(most), 3+s.below(40)+numberIf(most > 8)*3))
	}
	return s.ex(1+s.below(wide), deep)
}

func (s *smith) signalEx(width, deep int) impl.Ex {
	if mem := s.pick(true); mem >= 0 && deep > 0 && s.below(4) == 0 {
		signal := s.f.Signals[mem]
		return s.fitted(impl.Ex{Op: impl.OpMem, Width: signal.Width, N: mem, Kids: []impl.Ex{s.index(signal.Depth, deep-1)}}, width)
	}
	sig := s.pick(false)
	if sig < 0 {
		return bitsEx(s.bits(width))
	}
	signal := s.f.Signals[sig]
	if deep > 0 && s.below(3) == 0 {
		return s.fitted(impl.Ex{Op: impl.OpPick, Width: 1, N: sig, Kids: []impl.Ex{s.index(signal.Width, deep-1)}}, width)
	}
	return s.fitted(sigEx(sig, signal.Width), width)
}

func (s *smith) ex(width, deep int) impl.Ex {
	kind := s.below(14)
	kid := func(width int) impl.Ex { return s.ex(width, deep-1) }
	switch {
	case kind == 0:
		return bitsEx(s.bits(width))
	case kind < 6 || deep <= 0:
		return s.signalEx(width, deep)
	case kind == 6:
		return ex(impl.OpChoose, width, kid(1+s.below(3)), kid(width), kid(width))
	case kind == 7:
		return s.joinEx(width, deep)
	case kind == 8:
		return ex([]int{impl.OpNot, impl.OpNeg}[s.below(2)], width, kid(width))
	case kind == 9:
		op := impl.OpAll + s.below(4)
		return s.fitted(ex(op, 1, kid(1+s.below(3))), width)
	case kind == 10:
		op := []int{impl.OpEq, impl.OpNe, impl.OpSame, impl.OpLt, impl.OpLe}[s.below(5)]
		same := 1 + s.below(3)
		e := ex(op, 1, kid(same), kid(same))
		e.Signed = (op == impl.OpLt || op == impl.OpLe) && s.below(2) == 0
		return s.fitted(e, width)
	case kind == 11:
		return s.fitted(ex(impl.OpBoth+s.below(2), 1, kid(1+s.below(3)), kid(1+s.below(3))), width)
	case kind == 12:
		return ex(impl.OpShl+s.below(3), width, kid(width), kid(1+s.below(3)))
	case s.slips():
		return ex(impl.OpDiv+s.below(2), width, kid(width), kid(width))
	}
	return ex(impl.OpAnd+s.below(6), width, kid(width), kid(width))
}

func (s *smith) joinEx(width, deep int) impl.Ex {
	e := ex(impl.OpJoin, width)
	for left := width; left > 0; {
		wide := 1 + s.below(left)
		e.Kids = append(e.Kids, s.ex(wide, deep-1))
		left -= wide
	}
	return e
}

func (s *smith) add(p impl.Proc) {
	if p.Kind != impl.ProcOn {
		p.Clock = -1
	}
	s.f.Procs = append(s.f.Procs, p)
}

// drive sets all bits of a wire or out, by one process or by several.
func (s *smith) drive(sig int) {
	s.readable = slices.Concat(s.free, s.loose)
	width := s.f.Signals[sig].Width
	for low := 0; low < width; {
		wide := width - low
		if s.below(2) == 0 {
			wide = 1 + s.below(wide)
		}
		at := low
		if s.slips() {
			at = s.below(width - wide + 1)
		}
		if !s.slips() {
			s.add(impl.Proc{Kind: impl.ProcAssign, Body: setSt(impl.StSet, sig, at, s.ex(wide, 3))})
		}
		low += wide
	}
	s.loose = append(s.loose, sig)
}

// set is of bits, a word or a bit by an index.
func (s *smith) set(kind, sig int) impl.St {
	signal := s.f.Signals[sig]
	if signal.Kind == impl.SigMem {
		return setSt(kind, sig, 0, s.ex(signal.Width, 2), s.index(signal.Depth, 1))
	}
	switch s.below(4) {
	case 0:
		wide := 1 + s.below(signal.Width)
		return setSt(kind, sig, s.below(signal.Width-wide+1), s.ex(wide, 2))
	case 1:
		return setSt(kind, sig, 0, s.ex(1, 2), s.index(signal.Width, 1))
	}
	return setSt(kind, sig, 0, s.ex(signal.Width, 2))
}

func (s *smith) kindOf(sig int) int {
	later := strings.Contains("rm", s.f.Signals[sig].Name[:1])
	return impl.StSet + numberIf(later != s.slips())
}

// block sets some of these signals.
func (s *smith) block(proc int, sigs []int, deep, most int) impl.St {
	block := blockSt()
	for range s.below(most + 1) {
		sig := sigs[s.below(len(sigs))]
		kind := s.kindOf(sig)
		if proc == impl.ProcComb {
			kind = impl.StSet
		}
		switch s.below(5) {
		case 0:
			if deep > 0 {
				block.Kids = append(block.Kids, s.block(proc, sigs, deep-1, 2))
			}
		case 1, 2:
			if deep > 0 {
				block.Kids = append(block.Kids, ifSt(s.ex(1+s.below(2), 2), s.block(proc, sigs, deep-1, 3), s.block(proc, sigs, deep-1, 2)))
			}
		default:
			block.Kids = append(block.Kids, s.set(kind, sig))
		}
	}
	return block
}

// covered sets all bits of a reg, by several ways.
func (s *smith) covered(sig int) impl.St {
	width := s.f.Signals[sig].Width
	switch s.below(4) {
	case 0:
		cut := 1 + s.below(width)
		block := blockSt(setSt(impl.StSet, sig, 0, s.ex(cut, 2)))
		if cut < width {
			block.Kids = append(block.Kids, setSt(impl.StSet, sig, cut, s.ex(width-cut, 2)))
		}
		block.Kids = mixed(&s.choices, block.Kids)
		return block
	case 1:
		return ifSt(s.ex(1+s.below(2), 2), s.covered(sig), s.covered(sig))
	case 2:
		block := blockSt()
		for bit := range width {
			if !s.slips() {
				block.Kids = append(block.Kids, setSt(impl.StSet, sig, 0, s.ex(1, 1), bitsEx(impl.BitsOf(bit, 7))))
			}
		}
		return block
	}
	return setSt(impl.StSet, sig, 0, s.ex(width, 2))
}

// comb covers all regs, then sets some of them again.
func (s *smith) comb(sigs []int) {
	s.readable = slices.Concat(s.free, s.loose)
	body := blockSt()
	for _, sig := range sigs {
		if s.slips() && s.below(2) == 0 {
			continue
		}
		body.Kids = append(body.Kids, s.covered(sig))
		s.readable = append(s.readable, sig)
		if s.below(3) == 0 {
			body.Kids = append(body.Kids, s.set(impl.StSet, sig))
		}
	}
	body.Kids = append(body.Kids, s.block(impl.ProcComb, sigs, 2, 3))
	s.add(impl.Proc{Kind: impl.ProcComb, Body: body})
	s.loose = append(s.loose, sigs...)
}

func (s *smith) on(sigs []int) {
	s.readable = slices.Concat(s.free, s.loose)
	for _, sig := range sigs {
		if strings.Contains("qn", s.f.Signals[sig].Name[:1]) {
			s.readable = append(s.readable, sig)
		}
	}
	clock := s.numbers[s.oneOf("c0", "c1", "k0", "k1")]
	if s.slips() {
		clock = s.numbers[s.oneOf("a1", "y0", "r1", "w1")]
		if s.f.Signals[clock].Width != 1 {
			clock = s.numbers["a1"]
		}
	}
	body := s.block(impl.ProcOn, sigs, 2, 6)
	for _, sig := range sigs {
		body.Kids = append(body.Kids, ifSt(s.ex(1, 1), blockSt(s.set(s.kindOf(sig), sig)), blockSt()))
	}
	s.add(impl.Proc{Kind: impl.ProcOn, Clock: clock, Body: body})
}

// of are the signals whose names begin so.
func (s *smith) of(letters string) []int {
	var all []int
	for number, signal := range s.f.Signals {
		if strings.Contains(letters, signal.Name[:1]) {
			all = append(all, number)
		}
	}
	return all
}

func (s *smith) clockWires() {
	first, second := "c0", s.oneOf("k0", "c1")
	s.add(impl.Proc{Kind: impl.ProcAssign, Body: setSt(impl.StSet, s.numbers["k0"], 0, sigEx(s.numbers[first], 1))})
	s.add(impl.Proc{Kind: impl.ProcAssign, Body: setSt(impl.StSet, s.numbers["k1"], 0, sigEx(s.numbers[second], 1))})
}

// twist puts in a process that is hardly ever right.
func (s *smith) twist() {
	s.readable = rising(len(s.f.Signals))
	sigs := s.of("prqgmnh")
	switch s.below(5) {
	case 0:
		s.add(impl.Proc{Kind: impl.ProcStart, Body: blockSt(impl.St{Kind: impl.StWait, N: 1})})
	case 1:
		s.add(impl.Proc{Kind: impl.ProcComb, Body: s.block(impl.ProcComb, sigs, 1, 2)})
	case 2:
		s.on(sigs)
	case 3:
		s.drive(s.of("ywk")[s.below(8)])
	case 4:
		s.f.Procs = slices.Delete(s.f.Procs, 0, 1)
	}
}

func (s *smith) design() impl.Flat {
	s.signals()
	s.clockWires()
	loose := mixed(&s.choices, s.of("ywp"))
	for len(loose) > 0 {
		sig := loose[0]
		loose = loose[1:]
		if s.f.Signals[sig].Name[0] != 'p' {
			s.drive(sig)
			continue
		}
		sigs := []int{sig}
		if len(loose) > 0 && s.f.Signals[loose[0]].Name[0] == 'p' {
			sigs, loose = append(sigs, loose[0]), loose[1:]
		}
		s.comb(sigs)
	}
	states := mixed(&s.choices, s.of("rqmn"))
	for len(states) > 0 {
		count := 1 + s.below(min(3, len(states)))
		s.on(states[:count])
		states = states[count:]
	}
	for i := range s.below(4) {
		s.readable = slices.Concat(s.free, s.loose)
		s.add(impl.Proc{Kind: impl.ProcCheck, Name: fmt.Sprint("check", i), Body: impl.St{Kind: impl.StCheck, Exs: []impl.Ex{s.ex(1+s.below(3), 3)}}})
	}
	if s.slips() && s.slips() {
		s.twist()
	}
	s.f.Procs = mixed(&s.choices, s.f.Procs)
	return s.f
}

// steps have all inputs known, and clocks that tick or not.
func (s *smith) steps(n impl.Net, count int) []impl.Step {
	var all []impl.Step
	for range count {
		var step impl.Step
		for _, in := range n.Ins {
			step.Ins = append(step.Ins, impl.BitsOf(int(stirred(uint64(s.below(1<<30)))), in.Width))
		}
		for range n.Clocks {
			step.Ticks = append(step.Ticks, s.below(3) > 0)
		}
		all = append(all, step)
	}
	return all
}
