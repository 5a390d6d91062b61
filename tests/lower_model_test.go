package tests

import (
	"fmt"
	"maps"
	"slices"

	"loop.example/g00031/impl"
)

// lowerModel says Lower again, on the chapter's words alone: a signal is worked out when it is asked for, what is in a process stands in maps that are copied where it branches, bits are counted one by one.
type lowerModel struct {
	f       impl.Flat
	sets    map[[2]int][]impl.St // of a process and a signal
	setters map[int][]int
	cells   []impl.Cell
	numbers map[string]int
	words   map[[2]int]int // a signal, a word of it
	roots   []int
	clocks  map[int]bool // the clock signals
	regs    map[[2]int]int
	net     impl.Net
}

// stsIn are a statement and all within it.
func stsIn(s impl.St) []impl.St {
	all := []impl.St{s}
	for _, kid := range s.Kids {
		all = append(all, stsIn(kid)...)
	}
	return all
}

func exsIn(list []impl.Ex) []impl.Ex {
	var all []impl.Ex
	for _, e := range list {
		all = append(append(all, e), exsIn(e.Kids)...)
	}
	return all
}

// setsOf are the statements of a process that set a signal.
func (m *lowerModel) setsOf(proc, sig int) []impl.St {
	if m.sets == nil {
		m.sets = map[[2]int][]impl.St{}
		for proc, p := range m.f.Procs {
			for _, s := range stsIn(p.Body) {
				if s.Kind == impl.StSet || s.Kind == impl.StLater {
					m.sets[[2]int{proc, s.N}] = append(m.sets[[2]int{proc, s.N}], s)
				}
			}
		}
	}
	return m.sets[[2]int{proc, sig}]
}

func (m *lowerModel) settersOf(sig int) []int {
	if all, ok := m.setters[sig]; ok {
		return all
	}
	var all []int
	for proc := range m.f.Procs {
		if len(m.setsOf(proc, sig)) > 0 {
			all = append(all, proc)
		}
	}
	m.setters[sig] = all
	return all
}

// setterKind is 0 where no process sets it.
func (m *lowerModel) setterKind(sig int) int {
	for _, proc := range m.settersOf(sig) {
		return m.f.Procs[proc].Kind
	}
	return 0
}

func (m *lowerModel) driversOfBit(sig, bit int) []int {
	var all []int
	for proc, p := range m.f.Procs {
		if p.Kind == impl.ProcAssign && p.Body.N == sig && bit >= p.Body.Low && bit < p.Body.Low+p.Body.Wide {
			all = append(all, proc)
		}
	}
	return all
}

func (m *lowerModel) lookAtSetters() {
	for sig, s := range m.f.Signals {
		switch s.Kind {
		case impl.SigWire, impl.SigOut:
			for bit := range s.Width {
				failUnless(len(m.driversOfBit(sig, bit)) <= 1, impl.ErrTwice)
			}
			for bit := range s.Width {
				failUnless(len(m.driversOfBit(sig, bit)) == 1, impl.ErrOpen)
			}
		case impl.SigReg, impl.SigMem:
			failUnless(len(m.settersOf(sig)) <= 1, impl.ErrTwice)
		}
	}
}

// mayBeOut tells whether an index may be out of the range of a signal's words, or bits.
func (m *lowerModel) mayBeOut(sig int, index impl.Ex) bool {
	most := m.f.Signals[sig].Width
	if m.f.Signals[sig].Kind == impl.SigMem {
		most = m.f.Signals[sig].Depth
	}
	if index.Op == impl.OpBits {
		return indexTold(index.Bits, most) < 0
	}
	return index.Width > 6 || []int{1, 2, 4, 8, 16, 32, 64}[index.Width] > most
}

func (m *lowerModel) lookAtExs() {
	for _, p := range m.f.Procs {
		for _, s := range stsIn(p.Body) {
			for _, e := range exsIn(s.Exs) {
				failUnless(e.Op != impl.OpDiv && e.Op != impl.OpRem && known(e.Bits), impl.ErrPlain)
				failUnless(e.Op != impl.OpMem && e.Op != impl.OpPick || !m.mayBeOut(e.N, e.Kids[0]), impl.ErrPlain)
			}
			failUnless(len(s.Exs) < 2 || !m.mayBeOut(s.N, s.Exs[1]), impl.ErrPlain)
		}
	}
}

// stepToRoot is the process by which one goes from a wire towards a root, -1 where one does not go on.
func (m *lowerModel) stepToRoot(sig int) int {
	drivers := m.settersOf(sig)
	if m.f.Signals[sig].Kind != impl.SigWire || len(drivers) != 1 {
		return -1
	}
	body := m.f.Procs[drivers[0]].Body
	if body.Wide != m.f.Signals[sig].Width || body.Exs[0].Op != impl.OpSig {
		return -1
	}
	return drivers[0]
}

func (m *lowerModel) rootOf(sig int) int {
	for range 256 {
		by := m.stepToRoot(sig)
		if by < 0 {
			break
		}
		sig = m.f.Procs[by].Body.Exs[0].N
	}
	return sig
}

func (m *lowerModel) lookAtClocks() {
	for _, p := range m.f.Procs {
		if p.Kind == impl.ProcOn {
			root := m.rootOf(p.Clock)
			failUnless(m.f.Signals[root].Kind == impl.SigIn, impl.ErrPlain)
			m.roots = append(m.roots, root)
		}
	}
	slices.Sort(m.roots)
	m.roots = slices.Compact(m.roots)
	failUnless(len(m.roots) <= 8, impl.ErrMany)
	m.clocks = map[int]bool{}
	for sig := range m.f.Signals {
		m.clocks[sig] = slices.Contains(m.roots, m.rootOf(sig))
	}
	for proc, p := range m.f.Procs {
		goes := p.Kind == impl.ProcAssign && m.clocks[p.Body.N] && m.stepToRoot(p.Body.N) == proc
		for sig := range m.f.Signals {
			failUnless(goes || !m.clocks[sig] || !mentions(p.Body, sig), impl.ErrPlain)
		}
	}
}

func (m *lowerModel) lookAtStates() {
	for sig, s := range m.f.Signals {
		if s.Kind != impl.SigReg && s.Kind != impl.SigMem {
			continue
		}
		kinds := map[int]bool{}
		for proc := range m.f.Procs {
			for _, set := range m.setsOf(proc, sig) {
				kinds[set.Kind] = true
			}
		}
		by := m.setterKind(sig)
		failUnless(len(kinds) < 2, impl.ErrKind)
		failUnless(s.Kind == impl.SigReg || by != impl.ProcComb, impl.ErrKind)
		failUnless(by == impl.ProcComb || known(s.Init), impl.ErrPlain)
		for proc, p := range m.f.Procs {
			others := len(m.setsOf(proc, sig)) == 0 && mentions(p.Body, sig)
			failUnless(by != impl.ProcOn || !kinds[impl.StSet] || !others, impl.ErrPlain)
		}
	}
}

func (m *lowerModel) isLoose(proc int) bool {
	return m.f.Procs[proc].Kind == impl.ProcAssign || m.f.Procs[proc].Kind == impl.ProcComb
}

// leads tells whether a process reads what another one sets.
func (m *lowerModel) leads(from, to int) bool {
	if !m.isLoose(from) || !m.isLoose(to) || from == to && m.f.Procs[from].Kind == impl.ProcComb {
		return false
	}
	for sig := range m.f.Signals {
		if len(m.setsOf(from, sig)) > 0 && mentions(m.f.Procs[to].Body, sig) {
			return true
		}
	}
	return false
}

// lookAtLoops takes away what hangs on nothing that is left, over and over.
func (m *lowerModel) lookAtLoops() {
	var left []int
	for proc := range m.f.Procs {
		if m.isLoose(proc) {
			left = append(left, proc)
		}
	}
	leads := map[[2]int]bool{}
	for _, from := range left {
		for _, to := range left {
			leads[[2]int{from, to}] = m.leads(from, to)
		}
	}
	for len(left) > 0 {
		count := len(left)
		left = slices.DeleteFunc(slices.Clone(left), func(to int) bool {
			return !slices.ContainsFunc(left, func(from int) bool { return leads[[2]int{from, to}] })
		})
		failUnless(len(left) < count, impl.ErrLoop)
	}
}

func (m *lowerModel) put(op, width, n int, signed bool, bits string, in ...int) int {
	c := impl.Cell{Op: op, Width: width, N: n, Signed: signed, Bits: bits, In: slices.Clone(in)}
	key := fmt.Sprint(c)
	if _, ok := m.numbers[key]; !ok {
		m.numbers[key] = len(m.cells)
		m.cells = append(m.cells, c)
	}
	return m.numbers[key]
}

func (m *lowerModel) op(op, width int, in ...int) int { return m.put(op, width, 0, false, "", in...) }

func (m *lowerModel) bits(bits string) int { return m.put(impl.OpBits, len(bits), 0, false, bits) }

func (m *lowerModel) part(cell, low, width int) int {
	return m.put(impl.OpPart, width, low, false, "", cell)
}

func (m *lowerModel) is(index, number int) int {
	return m.op(impl.OpEq, 1, index, m.bits(impl.BitsOf(number, m.cells[index].Width)))
}

func (m *lowerModel) choose(c, a, b int) int { return m.op(impl.OpChoose, m.cells[a].Width, c, a, b) }

// word is what a signal is for those that do not set it.
func (m *lowerModel) word(sig, word int) int {
	at := [2]int{sig, word}
	if cell, ok := m.words[at]; ok {
		return cell
	}
	s := m.f.Signals[sig]
	cell := 0
	switch by := m.setterKind(sig); {
	case s.Kind == impl.SigIn:
		n := slices.IndexFunc(m.net.Ins, func(in impl.NetPort) bool { return in.Name == s.Name })
		cell = m.put(impl.OpIn, s.Width, n, false, "")
	case by == impl.ProcOn:
		cell = m.put(impl.OpReg, s.Width, m.regs[at], false, "")
	case by == impl.ProcComb:
		cell = m.insideOf(m.settersOf(sig)[0]).is[at]
	case by == impl.ProcAssign:
		cell = m.driven(sig)
	default:
		cell = m.bits(s.Init)
	}
	m.words[at] = cell
	return cell
}

func (m *lowerModel) driven(sig int) int {
	var parts []int
	last := -1
	for bit := m.f.Signals[sig].Width - 1; bit >= 0; bit-- {
		if by := m.driversOfBit(sig, bit)[0]; by != last {
			parts = append(parts, (&inside{m: m, proc: by}).ex(m.f.Procs[by].Body.Exs[0]))
			last = by
		}
	}
	if len(parts) == 1 {
		return parts[0]
	}
	return m.op(impl.OpJoin, m.f.Signals[sig].Width, parts...)
}

// inside is what regs and words are in a process, and which bits are open.
type inside struct {
	m    *lowerModel
	proc int
	is   map[[2]int]int
	open map[[2]int]bool
}

func (m *lowerModel) insideOf(proc int) *inside {
	in := &inside{m, proc, map[[2]int]int{}, map[[2]int]bool{}}
	comb := m.f.Procs[proc].Kind == impl.ProcComb
	for sig, s := range m.f.Signals {
		if len(m.setsOf(proc, sig)) == 0 {
			continue
		}
		for word := range max(s.Depth, 1) {
			if comb {
				in.is[[2]int{sig, word}] = m.bits(zeros(s.Width))
			} else {
				in.is[[2]int{sig, word}] = m.word(sig, word)
			}
		}
		for bit := range s.Width {
			in.open[[2]int{sig, bit}] = comb
		}
	}
	in.st(m.f.Procs[proc].Body)
	for _, open := range in.open {
		failUnless(!open, impl.ErrLatch)
	}
	return in
}

func (in *inside) hasOpen(sig int) bool {
	for at, open := range in.open {
		if open && at[0] == sig {
			return true
		}
	}
	return false
}

func (in *inside) read(sig, word int) int {
	at := [2]int{sig, word}
	cell, own := in.is[at]
	if own && in.m.setsOf(in.proc, sig)[0].Kind == impl.StSet {
		failUnless(!in.hasOpen(sig), impl.ErrLatch)
		return cell
	}
	return in.m.word(sig, word)
}

func (in *inside) ex(e impl.Ex) int {
	m := in.m
	fixed := len(e.Kids) == 1 && e.Kids[0].Op == impl.OpBits
	switch {
	case e.Op == impl.OpSig:
		return in.read(e.N, 0)
	case e.Op == impl.OpMem && fixed:
		return in.read(e.N, indexTold(e.Kids[0].Bits, 64))
	case e.Op == impl.OpPick && fixed:
		return m.part(in.read(e.N, 0), indexTold(e.Kids[0].Bits, 64), 1)
	}
	var kids []int
	for _, kid := range e.Kids {
		kids = append(kids, in.ex(kid))
	}
	switch e.Op {
	case impl.OpMem:
		return in.wordsFrom(e.N, 0, kids[0])
	case impl.OpPick:
		whole := in.read(e.N, 0)
		return m.part(m.op(impl.OpShr, m.cells[whole].Width, whole, kids[0]), 0, 1)
	case impl.OpSame:
		return m.op(impl.OpEq, 1, kids...)
	}
	return m.put(e.Op, e.Width, e.N, e.Signed, e.Bits, kids...)
}

// wordsFrom is the choice among a memory's words from one on.
func (in *inside) wordsFrom(sig, word, index int) int {
	first := in.read(sig, word)
	if word == 1<<in.m.cells[index].Width-1 {
		return first
	}
	return in.m.choose(in.m.is(index, word), first, in.wordsFrom(sig, word+1, index))
}

func (in *inside) st(s impl.St) {
	switch s.Kind {
	case impl.StBlock:
		for _, kid := range s.Kids {
			in.st(kid)
		}
	case impl.StIf:
		test := in.ex(s.Exs[0])
		first := &inside{in.m, in.proc, maps.Clone(in.is), maps.Clone(in.open)}
		second := &inside{in.m, in.proc, maps.Clone(in.is), maps.Clone(in.open)}
		first.st(s.Kids[0])
		second.st(s.Kids[1])
		for at := range in.is {
			in.is[at] = first.is[at]
			if first.is[at] != second.is[at] {
				in.is[at] = in.m.choose(test, first.is[at], second.is[at])
			}
		}
		for at := range in.open {
			in.open[at] = first.open[at] || second.open[at]
		}
	default:
		in.set(s)
	}
}

func (in *inside) set(s impl.St) {
	m := in.m
	v := in.ex(s.Exs[0])
	if len(s.Exs) == 1 {
		in.setBits(s.N, s.Low, s.Wide, v)
		return
	}
	signal, index := m.f.Signals[s.N], s.Exs[1]
	number := indexTold(index.Bits, 64)
	switch {
	case signal.Kind == impl.SigMem && index.Op == impl.OpBits:
		in.is[[2]int{s.N, number}] = v
	case signal.Kind == impl.SigMem:
		at := in.ex(index)
		for k := range 1 << index.Width {
			old := in.is[[2]int{s.N, k}]
			in.is[[2]int{s.N, k}] = m.choose(m.is(at, k), v, old)
		}
	case index.Op == impl.OpBits:
		in.setBits(s.N, number, 1, v)
	default:
		at, wide := in.ex(index), signal.Width
		failUnless(!in.hasOpen(s.N), impl.ErrLatch)
		old := in.is[[2]int{s.N, 0}]
		not := m.op(impl.OpNot, wide, m.op(impl.OpShl, wide, m.bits(impl.BitsOf(1, wide)), at))
		up := m.op(impl.OpShl, wide, m.put(impl.OpSize, wide, 0, false, "", v), at)
		in.is[[2]int{s.N, 0}] = m.op(impl.OpOr, wide, m.op(impl.OpAnd, wide, old, not), up)
	}
}

func (in *inside) setBits(sig, low, wide, v int) {
	width := in.m.f.Signals[sig].Width
	at := [2]int{sig, 0}
	for bit := low; bit < low+wide; bit++ {
		in.open[[2]int{sig, bit}] = false
	}
	if wide == width {
		in.is[at] = v
		return
	}
	old, parts := in.is[at], []int{v}
	if low+wide < width {
		parts = []int{in.m.part(old, low+wide, width-low-wide), v}
	}
	if low > 0 {
		parts = append(parts, in.m.part(old, 0, low))
	}
	in.is[at] = in.m.op(impl.OpJoin, width, parts...)
}

func (m *lowerModel) addPorts() {
	for _, root := range m.roots {
		m.net.Clocks = append(m.net.Clocks, m.f.Signals[root].Name)
	}
	for sig, s := range m.f.Signals {
		if s.Kind == impl.SigIn && !m.clocks[sig] {
			m.net.Ins = append(m.net.Ins, impl.NetPort{Name: s.Name, Width: s.Width})
		}
		if m.setterKind(sig) != impl.ProcOn {
			continue
		}
		clock := slices.Index(m.roots, m.rootOf(m.f.Procs[m.settersOf(sig)[0]].Clock))
		for word := range max(s.Depth, 1) {
			name := s.Name
			if s.Kind == impl.SigMem {
				name = fmt.Sprintf("%s[%d]", name, word)
			}
			m.regs[[2]int{sig, word}] = len(m.net.Regs)
			m.net.Regs = append(m.net.Regs, impl.NetReg{Name: name, Width: s.Width, Clock: clock, Init: s.Init})
		}
	}
}

// walk numbers a cell behind its operands.
func (m *lowerModel) walk(cell int, places map[int]int) int {
	if _, ok := places[cell]; !ok {
		made := m.cells[cell]
		made.In = nil
		for _, in := range m.cells[cell].In {
			made.In = append(made.In, m.walk(in, places))
		}
		places[cell] = len(places)
		m.net.Cells = append(m.net.Cells, made)
	}
	return places[cell]
}

func (m *lowerModel) build() {
	for proc, p := range m.f.Procs {
		if p.Kind == impl.ProcComb {
			m.insideOf(proc)
		}
	}
	failUnless(len(m.net.Regs) <= 256, impl.ErrMany)
	places := map[int]int{}
	for sig, s := range m.f.Signals {
		if s.Kind == impl.SigOut {
			m.net.Outs = append(m.net.Outs, impl.NetOut{Name: s.Name, Cell: m.walk(m.word(sig, 0), places)})
		}
	}
	for proc, p := range m.f.Procs {
		if p.Kind == impl.ProcCheck {
			cell := (&inside{m: m, proc: proc}).ex(p.Body.Exs[0])
			if m.cells[cell].Width > 1 {
				cell = m.op(impl.OpAny, 1, cell)
			}
			m.net.Checks = append(m.net.Checks, impl.NetOut{Name: p.Name, Cell: m.walk(cell, places)})
		}
	}
	ends := map[int]*inside{}
	for proc, p := range m.f.Procs {
		if p.Kind == impl.ProcOn {
			ends[proc] = m.insideOf(proc)
		}
	}
	for sig, s := range m.f.Signals {
		for word := range max(s.Depth, 1) {
			if reg, ok := m.regs[[2]int{sig, word}]; ok {
				m.net.Regs[reg].Next = m.walk(ends[m.settersOf(sig)[0]].is[[2]int{sig, word}], places)
			}
		}
	}
	failUnless(len(m.net.Cells) <= 4096, impl.ErrMany)
	var names []string
	for _, r := range m.net.Regs {
		failUnless(len(r.Name) <= 1000, impl.ErrLong)
		names = append(names, r.Name)
	}
	slices.Sort(names)
	failUnless(len(slices.Compact(names)) == len(m.net.Regs), impl.ErrTwice)
}

func loweringTold(f impl.Flat) (net impl.Net, code int) {
	defer func() {
		if thrown := recover(); thrown != nil {
			net, code = impl.Net{}, int(thrown.(failed))
		}
	}()
	failUnless(flatTold(f), impl.ErrBad)
	m := &lowerModel{f: f, setters: map[int][]int{}, numbers: map[string]int{}, words: map[[2]int]int{}, regs: map[[2]int]int{}}
	for _, p := range f.Procs {
		failUnless(p.Kind != impl.ProcStart, impl.ErrPlain)
	}
	m.lookAtSetters()
	m.lookAtExs()
	m.lookAtClocks()
	m.lookAtStates()
	m.lookAtLoops()
	m.addPorts()
	m.build()
	return m.net, impl.OK
}
