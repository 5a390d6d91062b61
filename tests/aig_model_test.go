package tests

import (
	"fmt"
	"slices"
	"strings"

	"loop.example/g00031/impl"
)

// aigTold says what AigOK must answer.
func aigTold(a impl.Aig) bool {
	if len(a.Ands) > 8192 || len(a.Ins)+len(a.Latches) > 2048 || len(a.Outs) > 2048 || len(a.Checks) > 2048 || len(a.Clocks) > 8 {
		return false
	}
	var lits []int
	below := []int{}
	last := len(a.Ins) + len(a.Latches) + len(a.Ands)
	var latches, outs, checks []string
	for i, and := range a.Ands {
		own := 1 + len(a.Ins) + len(a.Latches) + i
		lits, below = append(lits, and.A, and.B), append(below, own-1, own-1)
	}
	for _, l := range a.Latches {
		lits, below, latches = append(lits, l.Next), append(below, last), append(latches, l.Name)
		if l.Init < 0 || l.Init > 1 || l.Clock < 0 || l.Clock >= len(a.Clocks) {
			return false
		}
	}
	for _, p := range a.Outs {
		lits, below, outs = append(lits, p.Lit), append(below, last), append(outs, p.Name)
	}
	for _, p := range a.Checks {
		lits, below, checks = append(lits, p.Lit), append(below, last), append(checks, p.Name)
	}
	for i, lit := range lits {
		if lit < 0 || lit > 2*below[i]+1 {
			return false
		}
	}
	return namesTold(slices.Concat(a.Ins, a.Clocks)) && namesTold(latches) && namesTold(outs) && namesTold(checks)
}

// namesTold tells whether all names have 1 to 1000 bytes and no two are the same.
func namesTold(names []string) bool {
	for _, name := range names {
		if name == "" || len(name) > 1000 {
			return false
		}
	}
	return !twiceTold(names)
}

func twiceTold(names []string) bool {
	names = slices.Clone(names)
	slices.Sort(names)
	return len(slices.Compact(slices.Clone(names))) < len(names)
}

// litValue is what a literal is, worked out anew from what it hangs on.
type litValue struct {
	a       impl.Aig
	ins     []string
	latches []string
	seen    map[int]bool
}

func (v *litValue) of(lit int) bool {
	if lit%2 == 1 {
		return !v.of(lit - 1)
	}
	variable := lit / 2
	ins, latches := len(v.ins), len(v.latches)
	switch {
	case variable == 0:
		return false
	case variable <= ins:
		return v.ins[variable-1] == "1"
	case variable <= ins+latches:
		return v.latches[variable-1-ins] == "1"
	}
	if _, ok := v.seen[variable]; !ok {
		and := v.a.Ands[variable-1-ins-latches]
		first, second := v.of(and.A), v.of(and.B)
		v.seen[variable] = first && second
	}
	return v.seen[variable]
}

func (v *litValue) told(lit int) string { return fmt.Sprint(numberIf(v.of(lit))) }

// aigRunTold says what AigRun must answer.
func aigRunTold(a impl.Aig, steps []impl.Step) ([]impl.Row, int) {
	if len(steps) > 4096 {
		return nil, impl.ErrLong
	}
	if !aigTold(a) {
		return nil, impl.ErrBad
	}
	for _, s := range steps {
		if len(s.Ins) != len(a.Ins) || len(s.Ticks) != len(a.Clocks) {
			return nil, impl.ErrBad
		}
		for _, bit := range s.Ins {
			if bit != "0" && bit != "1" {
				return nil, impl.ErrBad
			}
		}
	}
	var latches []string
	for _, l := range a.Latches {
		latches = append(latches, fmt.Sprint(l.Init))
	}
	var rows []impl.Row
	for _, s := range steps {
		ahead := litValue{a, s.Ins, latches, map[int]bool{}}
		latches = slices.Clone(latches)
		for i, l := range a.Latches {
			if s.Ticks[l.Clock] {
				latches[i] = ahead.told(l.Next)
			}
		}
		behind := litValue{a, s.Ins, latches, map[int]bool{}}
		row := impl.Row{Regs: latches}
		for _, p := range a.Outs {
			row.Outs = append(row.Outs, behind.told(p.Lit))
		}
		for _, p := range a.Checks {
			row.Checks = append(row.Checks, behind.told(p.Lit))
		}
		rows = append(rows, row)
	}
	return rows, impl.OK
}

// blast is a second telling of Blast: each and is a pair of literals, by which its own is found.
type blast struct {
	n      impl.Net
	first  int
	ands   [][2]int
	places map[[2]int]int
}

func (b *blast) and(x, y int) int {
	if x > y {
		x, y = y, x
	}
	switch {
	case x == 0 || x == y-1 && x%2 == 0:
		return 0
	case x == 1 || x == y:
		return y
	}
	at, ok := b.places[[2]int{x, y}]
	if !ok {
		at = len(b.ands)
		b.ands, b.places[[2]int{x, y}] = append(b.ands, [2]int{x, y}), at
	}
	return 2 * (b.first + at)
}

// nand is its opposite: not is 1 less for an odd literal, 1 more for an even one.
func (b *blast) nand(x, y int) int { return litTurned(b.and(x, y)) }

func litTurned(lit int) int { return lit + 1 - lit%2*2 }

func (b *blast) or(x, y int) int { return b.nand(litTurned(x), litTurned(y)) }

func (b *blast) xor(x, y int) int { return b.mux(x, litTurned(y), y) }

func (b *blast) mux(c, x, y int) int {
	left := b.nand(c, x)
	right := b.nand(litTurned(c), y)
	return b.nand(left, right)
}

func allTurned(bits []int) []int {
	var out []int
	for _, bit := range bits {
		out = append(out, litTurned(bit))
	}
	return out
}

func (b *blast) add(x, y []int, carry int) []int {
	var out []int
	for i := range x {
		half := b.xor(x[i], y[i])
		out = append(out, b.xor(half, carry))
		if i+1 < len(x) {
			first := b.and(x[i], y[i])
			second := b.and(half, carry)
			carry = b.or(first, second)
		}
	}
	return out
}

func (b *blast) mul(x, y []int) []int {
	what := make([]int, len(x))
	for i := range y {
		moved := make([]int, i)
		for k := range len(x) - i {
			moved = append(moved, b.and(x[k], y[i]))
		}
		what = b.add(what, moved, 0)
	}
	return what
}

func (b *blast) lt(x, y []int, signed bool) int {
	is := 0
	for i := range x {
		winner := y[i]
		if signed && i+1 == len(x) {
			winner = x[i]
		}
		is = b.mux(b.xor(x[i], y[i]), winner, is)
	}
	return is
}

func (b *blast) many(op int, bits []int) int {
	is := numberIf(op == impl.OpAll)
	for _, bit := range bits {
		switch op {
		case impl.OpAll:
			is = b.and(is, bit)
		case impl.OpAny:
			is = b.or(is, bit)
		case impl.OpOdd:
			is = b.xor(is, bit)
		}
	}
	return is
}

// moved shifts up by 2 to the j, or down; where that is more than there are bits all of them are those that come in.
func (b *blast) moved(op int, bits, by []int, in int) []int {
	for j, test := range by {
		distance := len(bits)
		if j < 6 {
			distance = min(1<<j, len(bits))
		}
		coming := slices.Repeat([]int{in}, distance)
		if op == impl.OpShl {
			coming = append(coming, bits[:len(bits)-distance]...)
		} else {
			coming = append(slices.Clone(bits[distance:]), coming...)
		}
		was := bits
		bits = nil
		for k, bit := range was {
			bits = append(bits, b.mux(test, coming[k], bit))
		}
	}
	return bits
}

// one is what a cell of one bit is that is no vector.
func (b *blast) one(c impl.Cell, in [][]int) int {
	switch c.Op {
	case impl.OpEq, impl.OpNe:
		is := 1
		for i := range in[0] {
			is = b.and(is, litTurned(b.xor(in[0][i], in[1][i])))
		}
		return is ^ numberIf(c.Op == impl.OpNe)
	case impl.OpLt:
		return b.lt(in[0], in[1], c.Signed)
	case impl.OpLe:
		return litTurned(b.lt(in[1], in[0], c.Signed))
	case impl.OpNone:
		return litTurned(b.many(impl.OpAny, in[0]))
	case impl.OpBoth, impl.OpEither:
		first := b.many(impl.OpAny, in[0])
		second := b.many(impl.OpAny, in[1])
		if c.Op == impl.OpBoth {
			return b.and(first, second)
		}
		return b.or(first, second)
	}
	return b.many(c.Op, in[0])
}

func (b *blast) cell(c impl.Cell, in [][]int) []int {
	var out []int
	switch c.Op {
	case impl.OpAnd, impl.OpOr, impl.OpXor:
		for i := range in[0] {
			out = append(out, []func(x, y int) int{b.and, b.or, b.xor}[c.Op-1](in[0][i], in[1][i]))
		}
		return out
	case impl.OpNot:
		return allTurned(in[0])
	case impl.OpAdd:
		return b.add(in[0], in[1], 0)
	case impl.OpSub:
		return b.add(in[0], allTurned(in[1]), 1)
	case impl.OpNeg:
		return b.add(make([]int, c.Width), allTurned(in[0]), 1)
	case impl.OpMul:
		return b.mul(in[0], in[1])
	case impl.OpShl, impl.OpShr:
		return b.moved(c.Op, in[0], in[1], 0)
	case impl.OpSar:
		return b.moved(c.Op, in[0], in[1], in[0][c.Width-1])
	case impl.OpChoose:
		test := b.many(impl.OpAny, in[0])
		for i := range in[1] {
			out = append(out, b.mux(test, in[1][i], in[2][i]))
		}
		return out
	case impl.OpJoin:
		for i := range in {
			out = append(out, in[len(in)-1-i]...)
		}
		return out
	case impl.OpPart:
		return in[0][c.N:][:c.Width]
	case impl.OpSize:
		ahead := in[0][len(in[0])-1] * numberIf(c.Signed)
		return append(slices.Clone(in[0]), slices.Repeat([]int{ahead}, 64)...)[:c.Width]
	case impl.OpBits:
		for i := range c.Width {
			out = append(out, int(c.Bits[c.Width-1-i]-'0'))
		}
		return out
	}
	return []int{b.one(c, in)}
}

// bitsNamed are the names of a thing's bits.
func bitsNamed(name string, width int) []string {
	var names []string
	for k := range width {
		if width > 1 {
			names = append(names, fmt.Sprintf("%s[%d]", name, k))
		} else {
			names = append(names, name)
		}
	}
	return names
}

// blastTold says what Blast must answer.
func blastTold(n impl.Net) (impl.Aig, int) {
	if !netTold(n) {
		return impl.Aig{}, impl.ErrBad
	}
	b := &blast{n: n, first: 1, places: map[[2]int]int{}}
	a := impl.Aig{Clocks: slices.Clone(n.Clocks)}
	var ins, regs, bits [][]int
	variables := func(width int) []int {
		var out []int
		for range width {
			out = append(out, 2*b.first)
			b.first++
		}
		return out
	}
	for _, in := range n.Ins {
		a.Ins, ins = append(a.Ins, bitsNamed(in.Name, in.Width)...), append(ins, variables(in.Width))
	}
	for _, reg := range n.Regs {
		regs = append(regs, variables(reg.Width))
	}
	if b.first > 2049 {
		return impl.Aig{}, impl.ErrMany
	}
	for _, c := range n.Cells {
		var in [][]int
		for _, operand := range c.In {
			in = append(in, bits[operand])
		}
		switch c.Op {
		case impl.OpIn:
			bits = append(bits, ins[c.N])
		case impl.OpReg:
			bits = append(bits, regs[c.N])
		default:
			bits = append(bits, b.cell(c, in))
		}
		if len(b.ands) > 8192 {
			return impl.Aig{}, impl.ErrMany
		}
	}
	for _, reg := range n.Regs {
		for k, name := range bitsNamed(reg.Name, reg.Width) {
			a.Latches = append(a.Latches, impl.Latch{Name: name, Next: bits[reg.Next][k], Init: int(reg.Init[reg.Width-1-k] - '0'), Clock: reg.Clock})
		}
	}
	a.Outs, a.Checks = pinsTold(n.Outs, bits), pinsTold(n.Checks, bits)
	if len(a.Outs) > 2048 || len(a.Checks) > 2048 {
		return impl.Aig{}, impl.ErrMany
	}
	if code := namesFault(a); code != impl.OK {
		return impl.Aig{}, code
	}
	return b.kept(a), impl.OK
}

func pinsTold(outs []impl.NetOut, bits [][]int) []impl.Pin {
	var pins []impl.Pin
	for _, out := range outs {
		for k, name := range bitsNamed(out.Name, len(bits[out.Cell])) {
			pins = append(pins, impl.Pin{Name: name, Lit: bits[out.Cell][k]})
		}
	}
	return pins
}

func namesFault(a impl.Aig) int {
	lists := [][]string{slices.Concat(a.Ins, a.Clocks), nil, nil, nil}
	for _, l := range a.Latches {
		lists[1] = append(lists[1], l.Name)
	}
	for _, p := range a.Outs {
		lists[2] = append(lists[2], p.Name)
	}
	for _, p := range a.Checks {
		lists[3] = append(lists[3], p.Name)
	}
	for _, name := range slices.Concat(lists...) {
		if len(name) > 1000 {
			return impl.ErrLong
		}
	}
	for _, names := range lists {
		if twiceTold(names) {
			return impl.ErrTwice
		}
	}
	return impl.OK
}

// kept puts the ands that are needed into a graph: they are found from its ends on, then numbered in their order.
func (b *blast) kept(a impl.Aig) impl.Aig {
	needed := map[int]bool{}
	var need func(lit int)
	need = func(lit int) {
		at := lit/2 - b.first
		if at < 0 || needed[at] {
			return
		}
		needed[at] = true
		need(b.ands[at][0])
		need(b.ands[at][1])
	}
	var ends []*int
	for i := range a.Latches {
		ends = append(ends, &a.Latches[i].Next)
	}
	for i := range a.Outs {
		ends = append(ends, &a.Outs[i].Lit)
	}
	for i := range a.Checks {
		ends = append(ends, &a.Checks[i].Lit)
	}
	for _, end := range ends {
		need(*end)
	}
	gone := make([]int, len(b.ands)+1)
	for at := range b.ands {
		gone[at+1] = gone[at] + numberIf(!needed[at])
	}
	moved := func(lit int) int {
		if at := lit/2 - b.first; at > 0 {
			return lit - 2*gone[at]
		}
		return lit
	}
	for at, and := range b.ands {
		if needed[at] {
			a.Ands = append(a.Ands, impl.And{A: moved(and[0]), B: moved(and[1])})
		}
	}
	for _, end := range ends {
		*end = moved(*end)
	}
	return a
}

// numberTold writes a number in bytes of seven bits.
func numberTold(number int) string {
	if number < 128 {
		return string([]byte{byte(number)})
	}
	return string([]byte{byte(number&127 | 128)}) + numberTold(number>>7)
}

func nameTold(name string) string { return numberTold(len(name)) + name }

// aigBytesTold says what AigBytes must answer.
func aigBytesTold(a impl.Aig) (string, int) {
	if !aigTold(a) {
		return "", impl.ErrBad
	}
	var text strings.Builder
	for _, names := range [][]string{a.Ins, a.Clocks} {
		text.WriteString(numberTold(len(names)))
		for _, name := range names {
			text.WriteString(nameTold(name))
		}
	}
	text.WriteString(numberTold(len(a.Latches)))
	for _, l := range a.Latches {
		text.WriteString(nameTold(l.Name) + numberTold(l.Next) + numberTold(l.Init) + numberTold(l.Clock))
	}
	text.WriteString(numberTold(len(a.Ands)))
	for i, and := range a.Ands {
		own := 2 * (1 + len(a.Ins) + len(a.Latches) + i)
		if and.A > and.B {
			and.A, and.B = and.B, and.A
		}
		text.WriteString(numberTold(own-and.B) + numberTold(and.B-and.A))
	}
	for _, pins := range [][]impl.Pin{a.Outs, a.Checks} {
		text.WriteString(numberTold(len(pins)))
		for _, p := range pins {
			text.WriteString(nameTold(p.Name) + numberTold(p.Lit))
		}
	}
	if text.Len() > 65536 {
		return "", impl.ErrLong
	}
	return text.String(), impl.OK
}

// bytesLook reads a graph's bytes and tells of itself where something cannot stand there.
type bytesLook struct {
	left  string
	wrong bool
}

func (l *bytesLook) number() int {
	number, scale := 0, 1
	for i := range len(l.left) {
		if i > 3 {
			break
		}
		b := int(l.left[i])
		number += b % 128 * scale
		if scale *= 128; b < 128 {
			l.left = l.left[i+1:]
			// of several bytes the last one is not needed if it is 0
			l.wrong = l.wrong || i > 0 && b == 0
			return number
		}
	}
	l.wrong = true
	return 0
}

func (l *bytesLook) name() string {
	size := l.number()
	if size > len(l.left) {
		l.wrong = true
		return ""
	}
	name := l.left[:size]
	l.left = l.left[size:]
	return name
}

// times does something as often as the next number tells, as long as nothing is wrong.
func (l *bytesLook) times(do func()) {
	for range l.number() {
		if l.wrong {
			return
		}
		do()
	}
}

// readAigTold says what ReadAig must answer.
func readAigTold(b string) (impl.Aig, int) {
	l := &bytesLook{left: b}
	var a impl.Aig
	l.times(func() { a.Ins = append(a.Ins, l.name()) })
	l.times(func() { a.Clocks = append(a.Clocks, l.name()) })
	l.times(func() {
		latch := impl.Latch{Name: l.name()}
		latch.Next = l.number()
		latch.Init = l.number()
		latch.Clock = l.number()
		a.Latches = append(a.Latches, latch)
	})
	l.times(func() {
		high := 2*(1+len(a.Ins)+len(a.Latches)+len(a.Ands)) - l.number()
		a.Ands = append(a.Ands, impl.And{A: high - l.number(), B: high})
	})
	for _, pins := range []*[]impl.Pin{&a.Outs, &a.Checks} {
		l.times(func() {
			name := l.name()
			*pins = append(*pins, impl.Pin{Name: name, Lit: l.number()})
		})
	}
	if l.wrong || l.left != "" || len(b) > 65536 || !aigTold(a) {
		return impl.Aig{}, impl.ErrForm
	}
	return a, impl.OK
}
