package tests

import (
	"fmt"
	"strings"

	"loop.example/g00031/impl"
)

// designer writes texts of designs of which most can be elaborated. It keeps the names that are visible, by what they are; now and then it takes another one.
type designer struct {
	choices
	seen    seenNames
	modules []madeModule
	next    int
	wrong   int // one choice of so many is a wrong one; none if 0
}

type seenNames struct {
	ins, outs, wires, regs, mems, bits, consts, ports []string
	funcs                                             []madeFunc
}

type madeFunc struct {
	name  string
	ports int
}

type madeModule struct {
	name   string
	params []string
	ports  []string // in NAME or out NAME
}

func (d *designer) slips() bool { return d.wrong > 0 && d.below(d.wrong) == 0 }

func (d *designer) fresh(begin string) string {
	if all := d.all(); d.slips() && len(all) > 0 {
		return d.oneOf(all...)
	}
	d.next++
	return fmt.Sprintf("%s%d", begin, d.next)
}

func (d *designer) all() []string {
	s := d.seen
	var all []string
	for _, list := range [][]string{s.ins, s.outs, s.wires, s.regs, s.mems, s.consts, s.ports} {
		all = append(all, list...)
	}
	for _, f := range s.funcs {
		all = append(all, f.name)
	}
	return all
}

func (d *designer) some(least, most int, one func() string) []string {
	var list []string
	for range least + d.below(most-least+1) {
		list = append(list, one())
	}
	return list
}

// taken is a name out of these lists; none is there, or it slips: any other.
func (d *designer) taken(lists ...[]string) string {
	var names []string
	for _, list := range lists {
		names = append(names, list...)
	}
	if d.slips() || len(names) == 0 {
		names = append(d.all(), "nowhere")
	}
	return d.oneOf(names...)
}

func (d *designer) vectorName() string {
	s := d.seen
	return d.taken(s.ins, s.outs, s.wires, s.regs, s.ports, s.ports)
}

// constant is an expr of numbers and constants' names, mostly from least to most.
func (d *designer) constant(least, most int) string {
	number := fmt.Sprint(least + d.below(most-least+1))
	switch d.below(8) {
	case 0:
		if len(d.seen.consts) > 0 && (most >= 5 || d.slips()) {
			return d.taken(d.seen.consts)
		}
	case 1:
		return fmt.Sprintf("( %s + %d )", d.constant(least, least), d.below(most-least+1))
	case 2:
		return fmt.Sprintf("( %s ? %s : %s )", d.constant(0, 1), number, d.constant(least, most))
	case 3:
		return fmt.Sprintf("( %s %s )", number, d.oneOf("| 0", "^ 0", "- 0", "% 9", "& 7", "* 1", "<< 0", ">> 0", ">>> 0", "/ 1", "+ ( 2 < 1 )", "- ! 5", "+ ( 0 && 3 )", "* ( 3 === 3 )", "- ( 1 >= 2 )", "+ ~ 0 + 1"))
	case 4:
		if d.slips() {
			return d.oneOf("1'bx", "( 1 / 0 )", "( 1 << 64 )", "70", "( - 1 )", "( & 1 )", "{ 1 , 2 }", "33'd4294967296", "40'hffffffffff", d.expr(1))
		}
	}
	return number
}

func (d *designer) expr(depth int) string {
	kid := func() string { return d.expr(depth - 1) }
	if depth <= 0 || d.below(5) == 0 {
		switch d.below(6) {
		case 0:
			return d.oneOf("0", "1", "5", "1'b1", "3'bx1z", "4'sb1010", "8'hff", "2'sd1", "12'o17", "2147483647")
		case 1:
			if len(d.seen.consts) > 0 {
				return d.taken(d.seen.consts)
			}
		}
		return d.vectorName()
	}
	switch d.below(14) {
	case 0:
		if len(d.seen.mems) > 0 {
			return fmt.Sprintf("%s [ %s ]", d.taken(d.seen.mems), d.index(depth, 2))
		}
	case 1:
		return fmt.Sprintf("%s [ %s ]", d.vectorName(), d.index(depth, 2))
	case 2:
		return fmt.Sprintf("%s [ %s : %s ]", d.vectorName(), d.constant(1, 2), d.constant(0, 1))
	case 3, 4:
		return d.called(depth)
	case 5:
		return "{ " + strings.Join(d.some(1, 3, kid), " , ") + " }"
	case 6:
		return fmt.Sprintf("{ %s { %s } }", d.constant(1, 2), kid())
	case 7:
		return fmt.Sprintf("%s ( %s )", d.oneOf("signed", "unsigned"), kid())
	case 8:
		return fmt.Sprintf("%s ( %s )", d.oneOf(theUnaries()...), kid())
	case 9:
		return fmt.Sprintf("( %s ? %s : %s )", kid(), kid(), kid())
	}
	return fmt.Sprintf("( %s %s %s )", kid(), d.oneOf(allOperators()...), kid())
}

func (d *designer) index(depth, most int) string {
	if d.below(2) == 0 {
		return d.constant(0, most)
	}
	return d.expr(depth - 1)
}

func (d *designer) called(depth int) string {
	if len(d.seen.funcs) == 0 {
		return d.vectorName()
	}
	f := d.seen.funcs[d.below(len(d.seen.funcs))]
	if d.slips() {
		f.ports++
	}
	var kids []string
	for range f.ports {
		kids = append(kids, d.expr(depth-1))
	}
	return fmt.Sprintf("%s ( %s )", f.name, strings.Join(kids, " , "))
}

func (d *designer) typed(least, most int) string {
	signed := d.oneOf("", "signed ")
	if least == 1 && d.below(3) == 0 {
		return signed
	}
	return signed + "[ " + d.constant(least, most) + " ] "
}

// inside writes what is visible there alone.
func (d *designer) inside(write func() string) string {
	keep := d.seen
	text := write()
	d.seen = keep
	return text
}

// and keeps lists apart that began as one.
func and(list []string, name string) []string {
	return append(append([]string{}, list...), name)
}

func (d *designer) item(depth int) string {
	kinds := 12
	if depth > 0 {
		kinds = 16
	}
	switch d.below(kinds) {
	case 0:
		return d.declared("w", &d.seen.wires, func(name string) string { return "wire " + d.typed(3, 7) + name + " ;" })
	case 1:
		return d.declared("r", &d.seen.regs, func(name string) string {
			return "reg " + d.typed(3, 7) + name + d.oneOf("", " = "+d.constant(0, 9)) + " ;"
		})
	case 2:
		return d.declared("m", &d.seen.mems, func(name string) string {
			return "mem " + d.typed(1, 6) + name + " [ " + d.constant(3, 8) + " ] ;"
		})
	case 3:
		return d.declared("k", &d.seen.consts, func(name string) string { return "const " + name + " = " + d.constant(0, 5) + " ;" })
	case 4:
		names := d.some(1, 3, func() string { return d.fresh("e") })
		for _, name := range names {
			d.seen.consts = and(d.seen.consts, name)
		}
		return "enum " + strings.Join(names, " , ") + " ;"
	case 5:
		return d.function()
	case 6, 7:
		return d.target(d.seen.outs, d.seen.wires) + " ;"
	case 8:
		return "comb " + d.block(2, "comb")
	case 9:
		return "on " + d.taken(d.seen.bits) + " " + d.block(2, "on")
	case 10:
		return "start " + d.block(2, "start")
	case 11:
		return fmt.Sprintf("check %s = %s ;", d.fresh("c"), d.expr(3))
	case 12:
		first := d.below(3)
		name := d.fresh("i")
		return fmt.Sprintf("for %s = %s .. %d %s", name, d.constant(first, first), first+d.below(3)-d.below(2), d.inside(func() string {
			d.seen.consts = and(d.seen.consts, name)
			return d.items(depth - 1)
		}))
	case 13:
		text := fmt.Sprintf("when %s %s", d.constant(0, 1), d.inside(func() string { return d.items(depth - 1) }))
		if d.below(2) == 0 {
			text += " else " + d.inside(func() string { return d.items(depth - 1) })
		}
		return text
	}
	return d.use()
}

func (d *designer) declared(begin string, list *[]string, write func(name string) string) string {
	name := d.fresh(begin)
	text := write(name)
	*list = and(*list, name)
	return text
}

func (d *designer) function() string {
	name := d.fresh("f")
	var ports []string
	var heads []string
	for range d.below(4) {
		port := d.fresh("p")
		heads = append(heads, d.typed(3, 7)+port)
		ports = append(ports, port)
	}
	result := d.typed(1, 8)
	expr := d.inside(func() string {
		d.seen.ports = ports
		return d.expr(3)
	})
	d.seen.funcs = append(append([]madeFunc{}, d.seen.funcs...), madeFunc{name, len(ports)})
	return fmt.Sprintf("func %s%s ( %s ) = %s ;", result, name, strings.Join(heads, " , "), expr)
}

func (d *designer) items(depth int) string {
	return "{ " + strings.Join(d.some(0, 4, func() string { return d.item(depth) }), " ") + " }"
}

func (d *designer) target(lists ...[]string) string {
	return "assign " + d.targetOf("=", lists...)
}

func (d *designer) targetOf(mark string, lists ...[]string) string {
	name := d.taken(lists...)
	switch d.below(4) {
	case 0:
		name += " [ " + d.constant(0, 2) + " ]"
	case 1:
		name += " [ " + d.constant(1, 2) + " : " + d.constant(0, 1) + " ]"
	}
	return name + " " + mark + " " + d.expr(3)
}

func (d *designer) block(depth int, in string) string {
	return "{ " + strings.Join(d.some(0, 3, func() string { return d.statement(depth, in) }), " ") + " }"
}

func (d *designer) setMark(in string) string {
	if in == "comb" && !d.slips() {
		return "="
	}
	return d.oneOf("=", "<=")
}

func (d *designer) statement(depth int, in string) string {
	kinds := 6
	if depth > 0 {
		kinds = 9
	}
	kind := d.below(kinds)
	switch {
	case kind == 0 && len(d.seen.mems) > 0:
		return fmt.Sprintf("%s [ %s ] %s %s ;", d.taken(d.seen.mems), d.index(2, 2), d.setMark(in), d.expr(3))
	case kind == 1:
		return fmt.Sprintf("%s [ %s ] %s %s ;", d.taken(d.seen.regs), d.index(2, 2), d.setMark(in), d.expr(3))
	case kind == 2 && (in == "start" || d.slips()):
		return d.oneOf("wait "+d.constant(0, 20)+" ;", "stop ;")
	case kind == 6:
		text := "if " + d.expr(2) + " " + d.block(depth-1, in)
		return text + d.oneOf("", " else "+d.block(depth-1, in), " else if "+d.expr(2)+" "+d.block(depth-1, in))
	case kind == 7:
		arms := d.some(0, 3, func() string {
			return strings.Join(d.some(1, 3, func() string { return d.expr(2) }), " , ") + " : " + d.block(depth-1, in)
		})
		return "case " + d.expr(2) + " { " + strings.Join(arms, " ") + d.oneOf("", " default : "+d.block(depth-1, in)) + " }"
	case kind == 8:
		first, name := d.below(3), d.fresh("j")
		return fmt.Sprintf("for %s = %d .. %d %s", name, first, first+d.below(3)-d.below(2), d.inside(func() string {
			d.seen.consts = and(d.seen.consts, name)
			return d.block(depth-1, in)
		}))
	}
	return d.targetOf(d.setMark(in), d.seen.regs) + " ;"
}

func (d *designer) use() string {
	if len(d.modules) == 0 {
		return ""
	}
	m := d.modules[d.below(len(d.modules))]
	var params, conns []string
	for _, param := range m.params {
		if d.below(2) == 0 || d.slips() {
			params = append(params, d.changed(param)+" = "+d.constant(3, 7))
		}
	}
	for _, port := range m.ports {
		name, isIn := strings.CutPrefix(port, "in ")
		switch {
		case isIn && !d.slips():
			conns = append(conns, ". "+d.changed(name)+" ( "+d.expr(2)+" )")
		case !isIn && d.below(3) > 0:
			target := strings.TrimSuffix(strings.TrimPrefix(d.target(d.seen.outs, d.seen.wires), "assign "), " ")
			conns = append(conns, ". "+d.changed(strings.TrimPrefix(name, "out "))+" ( "+strings.Split(target, " = ")[0]+" )")
		}
	}
	head := ""
	if len(params) > 0 {
		head = " # ( " + strings.Join(params, " , ") + " )"
	}
	return fmt.Sprintf("use %s %s%s ( %s ) ;", d.changed(m.name), d.fresh("u"), head, strings.Join(conns, " , "))
}

func (d *designer) changed(name string) string {
	if d.slips() {
		return d.oneOf("nowhere", name)
	}
	return name
}

func (d *designer) module(name string, items int) string {
	d.seen = seenNames{}
	m := madeModule{name: name}
	var params, ports []string
	for range d.below(3) {
		param := d.fresh("W")
		params = append(params, param+" = "+d.constant(3, 6))
		d.seen.consts = and(d.seen.consts, param)
		m.params = append(m.params, param)
	}
	clock := d.fresh("clk")
	ports = append(ports, "in "+clock)
	m.ports = append(m.ports, "in "+clock)
	d.seen.bits = []string{clock}
	for i := range 2 + d.below(4) {
		kind, port := d.oneOf("in", "out"), d.fresh("q")
		if i < 2 {
			kind = []string{"in", "out"}[i]
		}
		ports = append(ports, kind+" "+d.typed(3, 6)+port)
		m.ports = append(m.ports, kind+" "+port)
		if kind == "in" {
			d.seen.ins = and(d.seen.ins, port)
		} else {
			d.seen.outs = and(d.seen.outs, port)
		}
	}
	list := []string{
		d.declared("w", &d.seen.wires, func(name string) string { return "wire " + d.typed(3, 7) + name + " ;" }),
		d.declared("r", &d.seen.regs, func(name string) string { return "reg " + d.typed(3, 7) + name + " ;" }),
	}
	list = append(list, d.some(1, items, func() string { return d.item(2) })...)
	d.modules = append(d.modules, m)
	head := ""
	if len(params) > 0 {
		head = "# ( " + strings.Join(params, " , ") + " )"
	}
	return fmt.Sprintf("module %s %s ( %s ) %s end", name, head, strings.Join(ports, " , "), strings.Join(list, " "))
}

// design is a text and its top module.
func (d *designer) design() (string, string) {
	var texts []string
	for i := range 1 + d.below(3) {
		texts = append(texts, d.module(fmt.Sprintf("m%d", i), 10))
	}
	return strings.Join(texts, "\n"), d.modules[len(d.modules)-1].name
}

func designerOf(seed uint64, wrong int) *designer {
	return &designer{choices: choices{seed: seed}, wrong: wrong}
}

func (d *designer) params() []impl.Param {
	var given []impl.Param
	for _, name := range d.modules[len(d.modules)-1].params {
		if d.below(3) == 0 {
			given = append(given, impl.Param{Name: d.changed(name), Value: 3 + d.below(5)})
		}
	}
	return given
}
