package tests

import (
	"fmt"
	"math/big"
	"strings"

	"loop.example/g00031/impl"
)

// The types below say chapter 5 again, on its words alone, to hold the program against: own widths are worked out anew wherever they are asked for, what is visible is a list that only grows.

type meaning struct {
	what   string // constant, signal, memory, port, func
	number int    // the constant, the signal, the port's place
	kind   int    // of a signal or memory
	depth  int
	width  int
	signed bool
	ports  []meaning
	expr   impl.Node
	there  *visible
}

type visible struct {
	name  string
	is    meaning
	ahead *visible
}

type failed int

func fail(code int) { panic(failed(code)) }

func failUnless(holds bool, code int) {
	if !holds {
		fail(code)
	}
}

func (v *visible) find(name string) *meaning {
	if v == nil {
		return nil
	}
	if v.name == name {
		return &v.is
	}
	return v.ahead.find(name)
}

func (v *visible) ask(name string, kinds string) meaning {
	is := v.find(name)
	failUnless(is != nil, impl.ErrName)
	failUnless(strings.Contains(kinds, is.what), impl.ErrKind)
	return *is
}

func (v *visible) and(name string, is meaning) *visible {
	failUnless(v.find(name) == nil, impl.ErrTwice)
	return &visible{name, is, v}
}

func wrapped(n *big.Int) int {
	return int(int64(new(big.Int).And(n, big.NewInt(0).SetUint64(^uint64(0))).Uint64()))
}

func numberIf(holds bool) int {
	if holds {
		return 1
	}
	return 0
}

func (v *visible) constant(n impl.Node) int {
	switch {
	case n.Kind == impl.NNumber:
		bits, signed, _ := impl.NumberBits(n.Text)
		failUnless(known(bits), impl.ErrRange)
		return wrapped(numberOf(bits, signed))
	case n.Kind == impl.NName:
		return v.ask(n.Text, "constant").number
	case n.Kind == impl.NUnary && strings.Contains("~-!", n.Text):
		a := v.constant(n.Kids[0])
		return map[string]int{"~": -1 - a, "-": 0 - a, "!": numberIf(a == 0)}[n.Text]
	case n.Kind == impl.NBinary:
		a := v.constant(n.Kids[0])
		return constantTold(n.Text, a, v.constant(n.Kids[1]))
	case n.Kind == impl.NChoose:
		return v.constant(n.Kids[1+numberIf(v.constant(n.Kids[0]) == 0)])
	}
	fail(impl.ErrKind)
	return 0
}

func constantTold(op string, a, b int) int {
	x, y, z := big.NewInt(int64(a)), big.NewInt(int64(b)), new(big.Int)
	switch op {
	case "+":
		return wrapped(z.Add(x, y))
	case "-":
		return wrapped(z.Sub(x, y))
	case "*":
		return wrapped(z.Mul(x, y))
	case "/", "%":
		failUnless(b != 0, impl.ErrRange)
		q, r := z.QuoRem(x, y, new(big.Int))
		if op == "/" {
			return wrapped(q)
		}
		return wrapped(r)
	case "&":
		return wrapped(z.And(x, y))
	case "|":
		return wrapped(z.Or(x, y))
	case "^":
		return wrapped(z.Xor(x, y))
	case "<<", ">>", ">>>":
		failUnless(b >= 0 && b <= 63, impl.ErrRange)
		if op == "<<" {
			return wrapped(z.Lsh(x, uint(b)))
		}
		if op == ">>" && a < 0 {
			x.Add(x, new(big.Int).Lsh(big.NewInt(1), 64))
		}
		return wrapped(z.Rsh(x, uint(b)))
	}
	order := x.Cmp(y)
	return numberIf(map[string]bool{"==": order == 0, "===": order == 0, "!=": order != 0, "<": order < 0, "<=": order <= 0, ">": order > 0, ">=": order >= 0, "&&": a != 0 && b != 0, "||": a != 0 || b != 0}[op])
}

func (v *visible) isConstant(n impl.Node) bool {
	all := true
	for _, kid := range n.Kids {
		all = all && v.isConstant(kid)
	}
	switch n.Kind {
	case impl.NName:
		is := v.find(n.Text)
		return is != nil && is.what == "constant"
	case impl.NNumber:
		return true
	case impl.NUnary:
		return all && strings.Contains("~-!", n.Text)
	}
	return all && (n.Kind == impl.NBinary || n.Kind == impl.NChoose)
}

// own is the own width and sign of an expr.
func (v *visible) own(n impl.Node) (int, bool) {
	switch n.Kind {
	case impl.NNumber:
		bits, signed, _ := impl.NumberBits(n.Text)
		return len(bits), signed
	case impl.NName:
		is := v.ask(n.Text, "constant signal port")
		if is.what == "constant" {
			failUnless(is.number >= -2147483648 && is.number <= 2147483647, impl.ErrRange)
			return 32, true
		}
		return is.width, is.signed
	case impl.NIndex:
		is := v.ask(n.Text, "signal memory port")
		if v.isConstant(n.Kids[0]) {
			at := v.constant(n.Kids[0])
			failUnless(at >= 0, impl.ErrRange)
			failUnless(is.what == "memory" && at < is.depth || is.what != "memory" && at < is.width, impl.ErrRange)
		} else {
			v.own(n.Kids[0])
		}
		if is.what == "memory" {
			return is.width, is.signed
		}
		return 1, false
	case impl.NPart:
		is := v.ask(n.Text, "signal port")
		high, low := v.constant(n.Kids[0]), 0
		low = v.constant(n.Kids[1])
		failUnless(is.width > high && high >= low && low >= 0, impl.ErrRange)
		return high - low + 1, false
	case impl.NCall:
		is := v.ask(n.Text, "func")
		failUnless(len(n.Kids) == len(is.ports), impl.ErrKind)
		for _, kid := range n.Kids {
			v.own(kid)
		}
		return is.width, is.signed
	case impl.NRepeat:
		times := v.constant(n.Kids[0])
		failUnless(times >= 1 && times <= 64, impl.ErrRange)
		width, _ := v.own(n.Kids[1])
		failUnless(times*width <= 64, impl.ErrWidth)
		return times * width, false
	}
	return v.ownOfKids(n)
}

func (v *visible) ownOfKids(n impl.Node) (int, bool) {
	var widths []int
	var signs []bool
	for _, kid := range n.Kids {
		width, signed := v.own(kid)
		widths, signs = append(widths, width), append(signs, signed)
	}
	switch n.Kind {
	case impl.NJoin:
		sum := 0
		for _, width := range widths {
			sum += width
		}
		failUnless(sum <= 64, impl.ErrWidth)
		return sum, false
	case impl.NSigned, impl.NUnsigned:
		return widths[0], n.Kind == impl.NSigned
	case impl.NChoose:
		return max(widths[1], widths[2]), signs[1] && signs[2]
	case impl.NUnary:
		if n.Text == "~" || n.Text == "-" {
			return widths[0], signs[0]
		}
		return 1, false
	}
	switch {
	case strings.Contains(" & | ^ + - * / % ", " "+n.Text+" "):
		return max(widths[0], widths[1]), signs[0] && signs[1]
	case strings.Contains(" << >> >>> ", " "+n.Text+" "):
		return widths[0], signs[0]
	}
	return 1, false
}

// model makes a flat design. calls counts the Ex that were made for ports of funcs.
type model struct {
	design      impl.Node
	flat        impl.Flat
	uses, turns int
	calls       int
}

func ex(op, width int, kids ...impl.Ex) impl.Ex { return impl.Ex{Op: op, Width: width, Kids: kids} }

func signedEx(e impl.Ex, signed bool) impl.Ex {
	e.Signed = signed
	return e
}

func resized(e impl.Ex, width int, signed bool) impl.Ex {
	if e.Width == width {
		return e
	}
	return signedEx(ex(impl.OpSize, width, e), signed)
}

func bitsEx(bits string) impl.Ex { return impl.Ex{Op: impl.OpBits, Width: len(bits), Bits: bits} }

func opTold(text string, kids int) int {
	if kids == 1 {
		return map[string]int{"~": 19, "-": 20, "&": 21, "|": 22, "^": 23, "!": 24}[text]
	}
	return map[string]int{"&": 1, "|": 2, "^": 3, "+": 4, "-": 5, "*": 6, "/": 7, "%": 8, "==": 9, "!=": 10, "===": 11, "<": 12, ">": 12, "<=": 13, ">=": 13, "<<": 14, ">>": 15, ">>>": 16, "&&": 17, "||": 18}[text]
}

// fit makes an expr for a width and a sign; ports are what the ports of the func stand for whose expr it is.
func (m *model) fit(v *visible, n impl.Node, width int, signed bool, ports []impl.Ex) impl.Ex {
	at := func(i int) impl.Ex { return m.fit(v, n.Kids[i], width, signed, ports) }
	op := opTold(n.Text, len(n.Kids))
	switch {
	case n.Kind == impl.NChoose:
		return ex(impl.OpChoose, width, m.alone(v, n.Kids[0], ports), at(1), at(2))
	case n.Kind == impl.NUnary && op <= impl.OpNeg:
		return ex(op, width, at(0))
	case n.Kind == impl.NBinary && op <= impl.OpRem:
		return signedEx(ex(op, width, at(0), at(1)), signed && op >= impl.OpDiv)
	case n.Kind == impl.NBinary && op >= impl.OpShl && op <= impl.OpSar:
		if !signed {
			op = min(op, impl.OpShr)
		}
		return ex(op, width, at(0), m.alone(v, n.Kids[1], ports))
	}
	return resized(m.settled(v, n, ports), width, signed)
}

func (m *model) alone(v *visible, n impl.Node, ports []impl.Ex) impl.Ex {
	width, signed := v.own(n)
	return m.fit(v, n, width, signed, ports)
}

func (m *model) value(v *visible, n impl.Node, width int, ports []impl.Ex) impl.Ex {
	own, signed := v.own(n)
	return resized(m.fit(v, n, max(own, width), signed, ports), width, false)
}

func (m *model) whole(v *visible, name string, ports []impl.Ex) impl.Ex {
	is := v.find(name)
	if is.what == "port" {
		return ports[is.number]
	}
	return impl.Ex{Op: impl.OpSig, Width: is.width, N: is.number}
}

func (m *model) settled(v *visible, n impl.Node, ports []impl.Ex) impl.Ex {
	width, _ := v.own(n)
	var alone []impl.Ex
	if n.Kind == impl.NJoin || n.Kind == impl.NUnary || n.Kind == impl.NBinary {
		for _, kid := range n.Kids {
			alone = append(alone, m.alone(v, kid, ports))
		}
	}
	switch n.Kind {
	case impl.NNumber:
		bits, _, _ := impl.NumberBits(n.Text)
		return bitsEx(bits)
	case impl.NName:
		if is := v.find(n.Text); is.what == "constant" {
			return bitsEx(impl.BitsOf(is.number, 32))
		}
		return m.whole(v, n.Text, ports)
	case impl.NPart:
		e := ex(impl.OpPart, width, m.whole(v, n.Text, ports))
		e.N = v.constant(n.Kids[1])
		return e
	case impl.NIndex:
		return m.indexed(v, n, ports)
	case impl.NCall:
		return m.call(v, n, ports)
	case impl.NRepeat:
		for range v.constant(n.Kids[0]) {
			alone = append(alone, m.alone(v, n.Kids[1], ports))
		}
		return ex(impl.OpJoin, width, alone...)
	case impl.NJoin:
		return ex(impl.OpJoin, width, alone...)
	case impl.NSigned, impl.NUnsigned:
		return m.alone(v, n.Kids[0], ports)
	}
	op := opTold(n.Text, len(n.Kids))
	if len(n.Kids) == 1 || op >= impl.OpBoth {
		return ex(op, 1, alone...)
	}
	left, leftSigned := v.own(n.Kids[0])
	right, rightSigned := v.own(n.Kids[1])
	both := leftSigned && rightSigned
	kids := []impl.Ex{m.fit(v, n.Kids[0], max(left, right), both, ports), m.fit(v, n.Kids[1], max(left, right), both, ports)}
	if n.Text[0] == '>' {
		kids[0], kids[1] = kids[1], kids[0]
	}
	return signedEx(ex(op, 1, kids...), both && op >= impl.OpLt)
}

func (m *model) index(v *visible, n impl.Node, ports []impl.Ex) impl.Ex {
	if v.isConstant(n) {
		return bitsEx(impl.BitsOf(v.constant(n), 32))
	}
	return m.alone(v, n, ports)
}

func (m *model) indexed(v *visible, n impl.Node, ports []impl.Ex) impl.Ex {
	is := v.find(n.Text)
	e := ex(impl.OpMem, is.width)
	switch {
	case is.what == "memory":
		e.N = is.number
	case v.isConstant(n.Kids[0]):
		e = ex(impl.OpPart, 1, m.whole(v, n.Text, ports))
		e.N = v.constant(n.Kids[0])
		return e
	case is.what == "port":
		return ex(impl.OpPart, 1, ex(impl.OpShr, is.width, m.whole(v, n.Text, ports), m.index(v, n.Kids[0], ports)))
	default:
		e = ex(impl.OpPick, 1)
		e.N = is.number
	}
	e.Kids = []impl.Ex{m.index(v, n.Kids[0], ports)}
	return e
}

func (m *model) call(v *visible, n impl.Node, ports []impl.Ex) impl.Ex {
	is := v.find(n.Text)
	var given []impl.Ex
	for i, kid := range n.Kids {
		given = append(given, m.value(v, kid, is.ports[i].width, ports))
		size, _ := sizeOfEx(given[i])
		m.calls += size
	}
	return m.value(is.there, is.expr, is.width, given)
}

// sizeOfEx counts what is in an Ex, and how many are within each other at most.
func sizeOfEx(e impl.Ex) (int, int) {
	size, deep := 1, 0
	for _, kid := range e.Kids {
		s, d := sizeOfEx(kid)
		size, deep = size+s, max(deep, d)
	}
	return size, deep + 1
}

func sizeOfSt(st impl.St) (int, int) {
	size, deep := 1, 0
	for _, e := range st.Exs {
		s, d := sizeOfEx(e)
		size, deep = size+s, max(deep, d)
	}
	for _, kid := range st.Kids {
		s, d := sizeOfSt(kid)
		size, deep = size+s, max(deep, d)
	}
	return size, deep + 1
}

func (m *model) process(p impl.Proc) {
	if p.Kind != impl.ProcOn {
		p.Clock = -1
	}
	m.flat.Procs = append(m.flat.Procs, p)
	made := m.calls
	for _, one := range m.flat.Procs {
		size, _ := sizeOfSt(one.Body)
		made += size
	}
	failUnless(len(m.flat.Procs) <= impl.MaxProcs && made <= impl.MaxSize, impl.ErrMany)
	_, deep := sizeOfSt(p.Body)
	failUnless(deep <= impl.MaxTree, impl.ErrDeep)
}

func (m *model) module(name string) *impl.Node {
	for i := range m.design.Kids {
		if m.design.Kids[i].Text == name {
			return &m.design.Kids[i]
		}
	}
	return nil
}

func kidOf(list []impl.Node, text string) *impl.Node {
	for i := range list {
		if list[i].Text == text {
			return &list[i]
		}
	}
	return nil
}

func (m *model) walk(module impl.Node, prefix string, given []impl.Param, deep int) {
	params := module.Kids[0].Kids
	for i, one := range given {
		failUnless(kidOf(params, one.Name) != nil, impl.ErrName)
		for _, ahead := range given[:i] {
			failUnless(ahead.Name != one.Name, impl.ErrTwice)
		}
	}
	var v *visible
	for _, param := range params {
		number, found := 0, false
		for _, one := range given {
			if one.Name == param.Text {
				number, found = one.Value, true
			}
		}
		if !found {
			number = v.constant(param.Kids[0])
		}
		v = v.and(param.Text, meaning{what: "constant", number: number})
	}
	for _, port := range module.Kids[1].Kids {
		kind, letter := impl.SigWire, "z"
		if deep == 1 && port.Kind == impl.NOut {
			kind = impl.SigOut
		}
		if deep == 1 && port.Kind == impl.NIn {
			kind, letter = impl.SigIn, "x"
		}
		v = m.signal(v, prefix, port.Text, kind, port.Kids[0], nil, func(width int) string { return strings.Repeat(letter, width) })
	}
	m.items(v, module.Kids[2:], prefix, deep)
}

func (v *visible) typeTold(n impl.Node) (int, bool) {
	width := 1
	if len(n.Kids) == 1 {
		width = v.constant(n.Kids[0])
	}
	failUnless(width >= 1 && width <= 64, impl.ErrWidth)
	return width, n.Text == "signed"
}

func (m *model) signal(v *visible, prefix, name string, kind int, typed impl.Node, depth *impl.Node, init func(width int) string) *visible {
	width, signed := v.typeTold(typed)
	s := impl.Signal{Name: prefix + name, Kind: kind, Width: width, Signed: signed}
	is := meaning{what: "signal", number: len(m.flat.Signals), kind: kind, width: width, signed: signed}
	if depth != nil {
		s.Depth = v.constant(*depth)
		failUnless(s.Depth >= 1 && s.Depth <= impl.MaxDepth, impl.ErrRange)
		is.what, is.depth = "memory", s.Depth
	}
	s.Init = init(width)
	v = v.and(name, is)
	for _, other := range m.flat.Signals {
		failUnless(other.Name != s.Name, impl.ErrTwice)
	}
	failUnless(len(s.Name) <= impl.MaxLine, impl.ErrLong)
	m.flat.Signals = append(m.flat.Signals, s)
	failUnless(len(m.flat.Signals) <= impl.MaxSignals, impl.ErrMany)
	return v
}

func (m *model) items(v *visible, list []impl.Node, prefix string, deep int) {
	for _, n := range list {
		v = m.item(v, n, prefix, deep)
	}
}

func (m *model) item(v *visible, n impl.Node, prefix string, deep int) *visible {
	all := func(letter string) func(width int) string {
		return func(width int) string { return strings.Repeat(letter, width) }
	}
	switch n.Kind {
	case impl.NWire:
		return m.signal(v, prefix, n.Text, impl.SigWire, n.Kids[0], nil, all("z"))
	case impl.NReg:
		return m.signal(v, prefix, n.Text, impl.SigReg, n.Kids[0], nil, func(width int) string {
			if len(n.Kids) == 1 {
				return strings.Repeat("x", width)
			}
			return lowestBits(big.NewInt(int64(v.constant(n.Kids[1]))), width)
		})
	case impl.NMem:
		return m.signal(v, prefix, n.Text, impl.SigMem, n.Kids[0], &n.Kids[1], all("0"))
	case impl.NConst:
		return v.and(n.Text, meaning{what: "constant", number: v.constant(n.Kids[0])})
	case impl.NEnum:
		for i, kid := range n.Kids {
			v = v.and(kid.Text, meaning{what: "constant", number: i})
		}
		return v
	case impl.NFunc:
		return m.function(v, n)
	case impl.NFor:
		m.loop(v, n, func(v *visible, number int) {
			m.items(v, n.Kids[2].Kids, fmt.Sprintf("%s%s%d.", prefix, n.Text, number), deep)
		})
	case impl.NWhen:
		if v.constant(n.Kids[0]) != 0 {
			m.items(v, n.Kids[1].Kids, prefix, deep)
		} else if len(n.Kids) == 3 {
			m.items(v, n.Kids[2].Kids, prefix, deep)
		}
	case impl.NUse:
		m.use(v, n, prefix, deep)
	default:
		m.processItem(v, n, prefix)
	}
	return v
}

func (m *model) function(v *visible, n impl.Node) *visible {
	is := meaning{what: "func", expr: n.Kids[2]}
	is.width, is.signed = v.typeTold(n.Kids[0])
	for i, port := range n.Kids[1].Kids {
		width, signed := v.typeTold(port.Kids[0])
		is.ports = append(is.ports, meaning{what: "port", number: i, width: width, signed: signed})
	}
	is.there = v
	for i, port := range n.Kids[1].Kids {
		is.there = is.there.and(port.Text, is.ports[i])
	}
	is.there.own(is.expr)
	return v.and(n.Text, is)
}

func (m *model) loop(v *visible, n impl.Node, turn func(v *visible, number int)) {
	first, last := v.constant(n.Kids[0]), 0
	last = v.constant(n.Kids[1])
	failUnless(first >= 0 && first <= 1000000 && last >= 0 && last <= 1000000, impl.ErrRange)
	for i := first; i <= last; i++ {
		m.turns++
		failUnless(m.turns <= impl.MaxTurns, impl.ErrMany)
		turn(v.and(n.Text, meaning{what: "constant", number: i}), i)
	}
}

func (m *model) use(v *visible, n impl.Node, prefix string, deep int) {
	module := m.module(n.Text)
	failUnless(module != nil, impl.ErrName)
	m.uses++
	failUnless(m.uses <= impl.MaxUses, impl.ErrMany)
	failUnless(deep+1 <= impl.MaxInner, impl.ErrDeep)
	conns := n.Kids[2].Kids
	for i, conn := range conns {
		failUnless(kidOf(module.Kids[1].Kids, conn.Text) != nil, impl.ErrName)
		failUnless(kidOf(conns[:i], conn.Text) == nil, impl.ErrTwice)
	}
	var given []impl.Param
	for _, param := range n.Kids[1].Kids {
		given = append(given, impl.Param{Name: param.Text, Value: v.constant(param.Kids[0])})
	}
	at := len(m.flat.Signals)
	m.walk(*module, prefix+n.Kids[0].Text+".", given, deep+1)
	for i, port := range module.Kids[1].Kids {
		s := m.flat.Signals[at+i]
		conn := kidOf(conns, port.Text)
		if port.Kind == impl.NIn {
			failUnless(conn != nil, impl.ErrMissing)
			v.own(conn.Kids[0])
			m.process(impl.Proc{Kind: impl.ProcAssign, Body: impl.St{Kind: impl.StSet, N: at + i, Wide: s.Width, Exs: []impl.Ex{m.value(v, conn.Kids[0], s.Width, nil)}}})
		} else if conn != nil {
			failUnless(conn.Kids[0].Kind == impl.NName || conn.Kids[0].Kind == impl.NIndex || conn.Kids[0].Kind == impl.NPart, impl.ErrKind)
			target := m.target(v, conn.Kids[0], impl.ProcAssign)
			// the port under a name that no text can have
			with := v.and("the port", meaning{what: "signal", number: at + i, width: s.Width, signed: s.Signed})
			target.Exs = []impl.Ex{m.value(with, node(impl.NName, "the port"), target.Wide, nil)}
			m.process(impl.Proc{Kind: impl.ProcAssign, Body: target})
		}
	}
}

func (m *model) processItem(v *visible, n impl.Node, prefix string) {
	switch n.Kind {
	case impl.NAssign:
		m.process(impl.Proc{Kind: impl.ProcAssign, Body: m.set(v, n, impl.ProcAssign, impl.StSet)})
	case impl.NComb:
		m.process(impl.Proc{Kind: impl.ProcComb, Body: m.statement(v, n.Kids[0], impl.ProcComb)})
	case impl.NStart:
		m.process(impl.Proc{Kind: impl.ProcStart, Body: m.statement(v, n.Kids[0], impl.ProcStart)})
	case impl.NOn:
		clock := v.ask(n.Text, "signal")
		failUnless(clock.width == 1, impl.ErrKind)
		m.process(impl.Proc{Kind: impl.ProcOn, Clock: clock.number, Body: m.statement(v, n.Kids[0], impl.ProcOn)})
	case impl.NCheck:
		name := prefix + n.Text
		for _, p := range m.flat.Procs {
			failUnless(p.Kind != impl.ProcCheck || p.Name != name, impl.ErrTwice)
		}
		failUnless(len(name) <= impl.MaxLine, impl.ErrLong)
		m.process(impl.Proc{Kind: impl.ProcCheck, Name: name, Body: impl.St{Kind: impl.StCheck, Exs: []impl.Ex{m.alone(v, n.Kids[0], nil)}}})
	}
}

func (m *model) target(v *visible, n impl.Node, proc int) impl.St {
	is := v.ask(n.Text, "signal memory")
	fits := is.kind == impl.SigReg || is.kind == impl.SigMem
	if proc == impl.ProcAssign {
		fits = is.kind == impl.SigOut || is.kind == impl.SigWire
	}
	failUnless(fits, impl.ErrKind)
	st := impl.St{Kind: impl.StSet, N: is.number}
	st.Wide, _ = v.own(n)
	switch {
	case n.Kind == impl.NPart:
		st.Low = v.constant(n.Kids[1])
	case n.Kind == impl.NIndex && is.what == "signal" && v.isConstant(n.Kids[0]):
		st.Low = v.constant(n.Kids[0])
	case n.Kind == impl.NIndex:
		failUnless(proc != impl.ProcAssign, impl.ErrKind)
		st.Exs = []impl.Ex{m.index(v, n.Kids[0], nil)}
	}
	return st
}

func (m *model) set(v *visible, n impl.Node, proc, kind int) impl.St {
	st := m.target(v, n.Kids[0], proc)
	st.Kind = kind
	st.Exs = append([]impl.Ex{m.value(v, n.Kids[1], st.Wide, nil)}, st.Exs...)
	return st
}

func (m *model) statement(v *visible, n impl.Node, proc int) impl.St {
	st := impl.St{Kind: impl.StBlock}
	switch n.Kind {
	case impl.NBlock:
		for _, kid := range n.Kids {
			st.Kids = append(st.Kids, m.statement(v, kid, proc))
		}
	case impl.NSet:
		return m.set(v, n, proc, impl.StSet)
	case impl.NLater:
		failUnless(proc != impl.ProcComb, impl.ErrKind)
		return m.set(v, n, proc, impl.StLater)
	case impl.NWait:
		failUnless(proc == impl.ProcStart, impl.ErrKind)
		st = impl.St{Kind: impl.StWait, N: v.constant(n.Kids[0])}
		failUnless(st.N >= 0 && st.N <= 1000000, impl.ErrRange)
	case impl.NStop:
		failUnless(proc == impl.ProcStart, impl.ErrKind)
		st.Kind = impl.StStop
	case impl.NIf:
		st = impl.St{Kind: impl.StIf, Exs: []impl.Ex{m.alone(v, n.Kids[0], nil)}, Kids: []impl.St{m.statement(v, n.Kids[1], proc), {Kind: impl.StBlock}}}
		if len(n.Kids) == 3 {
			st.Kids[1] = m.statement(v, n.Kids[2], proc)
		}
	case impl.NLoop:
		m.loop(v, n, func(v *visible, _ int) {
			st.Kids = append(st.Kids, m.statement(v, n.Kids[2], proc))
		})
	case impl.NCase:
		width, signed := v.own(n.Kids[0])
		for _, arm := range n.Kids[1:] {
			for _, expr := range arm.Kids[:len(arm.Kids)-1] {
				w, s := v.own(expr)
				width, signed = max(width, w), signed && s
			}
		}
		return m.arms(v, n.Kids[0], n.Kids[1:], width, signed, proc)
	}
	return st
}

// arms makes the first arm, with the others as what stands in its place where it is not taken.
func (m *model) arms(v *visible, first impl.Node, arms []impl.Node, width int, signed bool, proc int) impl.St {
	if len(arms) == 0 {
		return impl.St{Kind: impl.StBlock}
	}
	last := len(arms[0].Kids) - 1
	block := m.statement(v, arms[0].Kids[last], proc)
	if arms[0].Kind == impl.NDefault {
		return block
	}
	var test impl.Ex
	for i, expr := range arms[0].Kids[:last] {
		same := ex(impl.OpSame, 1, m.fit(v, first, width, signed, nil), m.fit(v, expr, width, signed, nil))
		if i > 0 {
			same = ex(impl.OpEither, 1, test, same)
		}
		test = same
	}
	return impl.St{Kind: impl.StIf, Exs: []impl.Ex{test}, Kids: []impl.St{block, m.arms(v, first, arms[1:], width, signed, proc)}}
}

// elaborationTold is what Elaborate must answer for a design that is one.
func elaborationTold(n impl.Node, top string, params []impl.Param) (flat impl.Flat, code int) {
	defer func() {
		if thrown := recover(); thrown != nil {
			flat, code = impl.Flat{}, int(thrown.(failed))
		}
	}()
	m := &model{design: n}
	for i, module := range n.Kids {
		failUnless(kidOf(n.Kids[:i], module.Text) == nil, impl.ErrTwice)
	}
	failUnless(m.module(top) != nil, impl.ErrMissing)
	m.walk(*m.module(top), "", params, 1)
	return m.flat, impl.OK
}

func sameFlat(a, b impl.Flat) bool { return fmt.Sprintf("%v", a) == fmt.Sprintf("%v", b) }
