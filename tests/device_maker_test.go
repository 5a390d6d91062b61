package tests

import (
	"fmt"
	"strings"
)

// authored is what an author may read, by its name.
type authored struct {
	name  string
	width int
}

// author writes texts of small designs for hardware: with a module used within the top one, params, functions, items that come often or by a condition, memories.
type author struct {
	choices
	readable []authored
	calls    []string // functions of two
	items    []string
}

func authorOf(seed uint64) *author {
	return &author{choices: choices{seed: seed*0x9e3779b97f4a7c15 | 1}}
}

func (a *author) add(format string, of ...any) { a.items = append(a.items, fmt.Sprintf(format, of...)) }

// name is a signal, some bits of it, or one.
func (a *author) name() string {
	of := a.readable[a.below(len(a.readable))]
	low := a.below(of.width)
	switch {
	case of.width == 1 || a.below(3) > 0:
		return of.name
	case a.below(2) == 0:
		return fmt.Sprint(of.name, " [ ", low, " ]")
	}
	return fmt.Sprint(of.name, " [ ", low+a.below(of.width-low), " : ", low, " ]")
}

// index is of one of four words.
func (a *author) index() string {
	of := a.readable[a.below(len(a.readable))]
	switch {
	case a.below(3) == 0:
		return a.oneOf("0", "1", "2'd2", "3")
	case of.width == 2:
		return of.name
	}
	return of.name + " [ 0 ]"
}

func (a *author) expr(deep int) string {
	kind := a.below(12)
	if deep == 0 {
		kind = a.below(4)
	}
	kid := func() string { return a.expr(deep - 1) }
	switch {
	case kind == 0:
		return a.oneOf("1'b1", "2'd2", "3'b101", "1", "2'sb10", "K")
	case kind < 4:
		return a.name()
	case kind < 7:
		return "( " + kid() + a.oneOf(" & ", " | ", " ^ ") + kid() + " )"
	case kind == 7:
		return "( " + kid() + a.oneOf(" + ", " - ", " == ", " < ", " >= ", " != ", " && ", " || ") + kid() + " )"
	case kind == 8:
		return a.oneOf("~ ", "! ", "& ", "^ ", "- ") + "( " + kid() + " )"
	case kind == 9:
		return "( " + kid() + " ? " + kid() + " : " + kid() + " )"
	case kind == 10 && len(a.calls) > 0:
		return a.calls[a.below(len(a.calls))] + " ( " + kid() + " , " + kid() + " )"
	case kind == 10:
		return "( " + a.name() + a.oneOf(" << ", " >> ") + a.oneOf("1", "2'd2", a.name()) + " )"
	}
	return "{ " + a.name() + " , " + a.name() + " }"
}

// statements set a reg or a memory, each bit of it in any case where it is whole.
func (a *author) statement(target, mark string, whole bool, deep int) string {
	set := func() string { return fmt.Sprintf("%s %s %s ; ", target, mark, a.expr(2)) }
	inner := func() string { return a.statement(target, mark, whole, deep-1) }
	kind := a.below(4)
	switch {
	case kind == 0 && deep > 0:
		other := ""
		if whole || a.below(2) == 0 {
			other = "else { " + inner() + "} "
		}
		return "if " + a.expr(1) + " { " + inner() + "} " + other
	case kind == 1 && deep > 0:
		other := ""
		if whole || a.below(2) == 0 {
			other = "default : { " + inner() + "} "
		}
		return fmt.Sprintf("case %s { %s : { %s} %s , 2'd3 : { %s} %s} ", a.name(), a.oneOf("0", "1'b1", a.name()), inner(), a.oneOf("2", "K", a.name()), inner(), other)
	}
	return set()
}

// part is a module that keeps something of W bits.
func (a *author) part() string {
	was := *a
	defer func() { *a = was }()
	a.readable = []authored{{"a", 1}, {"b", 1}, {"r", 1}}
	a.calls = nil
	body := a.statement("r", "<=", false, 2)
	return fmt.Sprintf("module part # ( W = 1 , K = 2 ) ( in c , in [ W ] a , in b , out [ W ] q ) reg [ W ] r = K ; on c { %s} assign q = %s ; check part = %s ; end\n", body, a.expr(2), a.expr(2))
}

// text is a whole design; its top module is top.
func (a *author) text() string {
	ports := []string{"in c"}
	clocks := []string{"c"}
	if a.below(2) == 0 {
		ports, clocks = append(ports, "in d"), append(clocks, "d")
	}
	put := func(name string, width int) { a.readable = append(a.readable, authored{name, width}) }
	kind := func(width int) string { return fmt.Sprint(a.oneOf("", "signed "), "[ ", width, " ]") }
	for i := range 1 + a.below(3) {
		name, width := fmt.Sprint("i", i), 1+a.below(3)
		ports = append(ports, fmt.Sprint("in ", kind(width), " ", name))
		put(name, width)
	}
	a.add("const K = %d ;", a.below(4))
	a.add("func %s f ( %s p , %s q ) = ( p %s q ) ;", kind(2), kind(1+a.below(3)), kind(2), a.oneOf("+", "^", "&", "<"))
	a.calls = []string{"f"}
	var regs []authored
	for i := range 1 + a.below(3) {
		r := authored{fmt.Sprint("r", i), 1 + a.below(2)}
		regs = append(regs, r)
		a.add("reg %s %s = %d ;", kind(r.width), r.name, a.below(1<<r.width))
		put(r.name, r.width)
	}
	hasMem := a.below(3) == 0
	if hasMem {
		a.add("mem [ 1 ] m [ 4 ] ;")
	}
	for i := range 1 + a.below(3) {
		name, width := fmt.Sprint("w", i), 1+a.below(3)
		switch a.below(4) {
		case 0:
			a.add("reg %s %s ; comb { %s}", kind(width), name, a.statement(name, "=", true, 2))
		case 1:
			a.add("wire %s %s ; for x = 0 .. %d { assign %s [ x ] = %s [ 0 ] ^ ( x == K ) ; }", kind(width), name, width-1, name, a.readable[0].name)
		case 2:
			a.add("wire %s %s ; when K > 1 { assign %s = %s ; } else { assign %s = %s ; }", kind(width), name, name, a.expr(3), name, a.expr(2))
		default:
			a.add("wire %s %s ; assign %s = %s ;", kind(width), name, name, a.expr(3))
		}
		put(name, width)
	}
	if a.below(2) == 0 {
		width := 1 + a.below(2)
		a.add("wire [ %d ] u ; use part p # ( W = %d ) ( .c ( c ) , .a ( %s ) , .b ( %s ) , .q ( u ) ) ;", width, width, a.expr(1), a.expr(1))
		put("u", width)
	}
	if hasMem {
		a.add("on c { if %s { m [ %s ] <= %s ; } }", a.expr(1), a.index(), a.expr(2))
		a.add("wire n ; assign n = m [ %s ] ;", a.index())
		put("n", 1)
	}
	for _, r := range regs {
		a.add("on %s { %s}", clocks[a.below(len(clocks))], a.statement(r.name, "<=", false, 2))
	}
	if len(clocks) > 1 {
		a.add("reg s = 1 ; on d { s <= %s ; }", a.expr(2))
		put("s", 1)
	}
	for i := range 1 + a.below(3) {
		name, width := fmt.Sprint("y", i), 1+a.below(3)
		ports = append(ports, fmt.Sprint("out ", kind(width), " ", name))
		a.add("assign %s = %s ;", name, a.expr(3))
	}
	for i := range a.below(3) {
		a.add("check k%d = %s ;", i, a.expr(3))
	}
	top := "module top ( " + strings.Join(ports, " , ") + " )\n" + strings.Join(a.items, "\n") + "\nend\n"
	if a.below(2) == 0 {
		return top + a.part()
	}
	return a.part() + top
}
