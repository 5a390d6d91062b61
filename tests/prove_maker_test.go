package tests

import (
	"fmt"
	"slices"
	"strings"

	"loop.example/g00031/impl"
)

// proofWritten writes all of a proof out, as `fails 2 [01 10] [] {}`: its kind and Steps, Inputs, State, and the Traces with `/` between them.
func proofWritten(p impl.Proof) string {
	kind := fmt.Sprint("kind ", p.Kind)
	if p.Kind >= 0 && p.Kind < 5 {
		kind = []string{"nothing", "holds", "fails", "proved", "open"}[p.Kind]
	}
	var traces []string
	for _, trace := range p.Traces {
		traces = append(traces, clausesWritten(trace))
	}
	return fmt.Sprintf("%s %d [%s] [%s] {%s}", kind, p.Steps, strings.Join(p.Inputs, " "), p.State, strings.Join(traces, " / "))
}

// proofShown writes a proof out so that unlike texts and lists are never the same.
func proofShown(p impl.Proof) string {
	return fmt.Sprintf("%d %d %q %q %v", p.Kind, p.Steps, p.Inputs, p.State, p.Traces)
}

// proofCopied is a copy that can be changed.
func proofCopied(p impl.Proof) impl.Proof {
	p.Inputs = slices.Clone(p.Inputs)
	var traces [][][]int
	for _, trace := range p.Traces {
		traces = append(traces, clausesCopied(trace))
	}
	p.Traces = traces
	return p
}

// roomyProof is a copy with room behind each list.
func roomyProof(p impl.Proof) impl.Proof {
	p.Inputs = roomyList(p.Inputs, "behind")
	var traces [][][]int
	for _, trace := range p.Traces {
		traces = append(traces, roomyClauses(trace))
	}
	p.Traces = roomyList(traces, [][]int{{77}})
	return p
}

// wholeProof writes a proof out with what stands behind its lists.
func wholeProof(p impl.Proof) string {
	text := fmt.Sprintf("%d %d %q %q", p.Kind, p.Steps, p.Inputs[:cap(p.Inputs)], p.State)
	for _, trace := range p.Traces[:cap(p.Traces)] {
		text += wholeClauses(trace)
	}
	return text
}

// steady has short names, and one clock or, where there are no latches, at most one; no checks yet.
func (d *draughtsman) steady(ins, latches, ands int) impl.Aig {
	a := d.tangled(ins, latches, ands, 1+d.below(8), []int{2, 2, 3, 0}[d.below(4)])
	a.Ins = wideAig(ins, 0, 0, 0, 0, 0).Ins
	a.Clocks = a.Clocks[:min(len(a.Clocks), 1)]
	for i := range a.Latches {
		a.Latches[i].Name, a.Latches[i].Clock = fmt.Sprint("l", i), 0
	}
	for i := range a.Outs {
		a.Outs[i].Name = fmt.Sprint("y", i)
	}
	a.Checks = nil
	return a
}

// never puts a check behind a graph's others: that literals are never true all at once.
func never(a *impl.Aig, lits []int) {
	all := 1
	for _, lit := range lits {
		a.Ands = append(a.Ands, impl.And{A: all, B: lit})
		all = 2 * (len(a.Ins) + len(a.Latches) + len(a.Ands))
	}
	a.Checks = append(a.Checks, impl.Pin{Name: fmt.Sprint("k", len(a.Checks)), Lit: litTurned(all)})
}

// puzzle puts a check behind a graph's others: that the exclusive or of two literals and its opposite, each made by ands of its own, are never true both.
func puzzle(a *impl.Aig, x, y int) {
	and := func(x, y int) int {
		a.Ands = append(a.Ands, impl.And{A: x, B: y})
		return 2 * (len(a.Ins) + len(a.Latches) + len(a.Ands))
	}
	unlike := and(litTurned(and(x, litTurned(y))), litTurned(and(litTurned(x), y)))
	same := and(litTurned(and(x, y)), litTurned(and(litTurned(x), litTurned(y))))
	never(a, []int{litTurned(unlike), litTurned(same)})
}

// watched draws a graph with checks: mostly that its latches are never as drawn, or some literals never true all at once; now and then any literal, or a puzzle.
func (d *draughtsman) watched(ins, latches, ands int) impl.Aig {
	a := d.steady(ins, latches, ands)
	variables := 1 + ins + latches + ands
	for range 1 + d.below(3) {
		var lits []int
		switch d.below(8) {
		case 0:
			a.Checks = append(a.Checks, impl.Pin{Name: fmt.Sprint("k", len(a.Checks)), Lit: d.lit(variables)})
			continue
		case 1, 2:
			puzzle(&a, d.lit(1+ins+latches), d.lit(variables))
			continue
		case 3:
			for range 1 + d.below(4) {
				lits = append(lits, d.lit(variables))
			}
		default:
			for latch := range latches {
				lits = append(lits, 2*(1+ins+latch)+d.below(2))
			}
			if latches == 0 || d.below(4) == 0 {
				lits = append(lits, d.lit(variables))
			}
		}
		never(&a, lits)
	}
	return a
}

// puzzled draws a graph with puzzles as its checks.
func (d *draughtsman) puzzled(ins, latches, ands int) impl.Aig {
	a := d.steady(ins, latches, ands)
	for range 1 + d.below(2) {
		puzzle(&a, 2*(1+d.below(ins))+d.below(2), d.lit(1+ins+latches+ands))
	}
	return a
}

// sleepy draws a graph whose latches stay 0, as each one takes another one or an and with one; were they not 0, its checks might fail, at once or later.
func (d *draughtsman) sleepy(ins, latches int) impl.Aig {
	a := d.steady(ins, latches, 0)
	first := 1 + ins
	for i := range a.Latches {
		next := 2 * (first + d.below(latches))
		if d.below(2) == 0 {
			a.Ands = append(a.Ands, impl.And{A: next, B: 2*(1+d.below(ins+latches)) + d.below(2)})
			next = 2 * (ins + latches + len(a.Ands))
		}
		a.Latches[i].Next, a.Latches[i].Init = next, 0
	}
	for range 1 + d.below(2) {
		lits := []int{2 * (first + d.below(latches))}
		for range d.below(3) {
			lits = append(lits, 2*(1+d.below(ins+latches))+d.below(2))
		}
		never(&a, lits)
	}
	return a
}

// winding draws a graph in which what a latch takes goes on to the next one, step by step, perhaps with something that must hold then; its checks are of the last latches.
func (d *draughtsman) winding(ins, latches int) impl.Aig {
	a := d.steady(ins, latches, 0)
	for i := range a.Latches {
		next := 2*(ins+i) + numberIf(i == 0 && ins == 0)
		if i == 0 && ins > 0 {
			next = d.lit(1 + ins)
		}
		if d.below(3) == 0 {
			a.Ands = append(a.Ands, impl.And{A: next, B: d.lit(1 + ins + latches)})
			next = 2 * (ins + latches + len(a.Ands))
		}
		a.Latches[i].Next, a.Latches[i].Init = next, numberIf(d.below(12) == 0)
	}
	lits := []int{2 * (ins + latches)}
	for range d.below(2) {
		lits = append(lits, d.lit(1+ins+latches))
	}
	never(&a, lits)
	return a
}

// provable draws a graph of any of these kinds.
func (d *draughtsman) provable(ins, latches, ands int) impl.Aig {
	switch d.below(5) {
	case 2:
		return d.winding(ins, max(latches, 1))
	case 0:
		return d.puzzled(max(ins, 1), latches, ands)
	case 1:
		return d.sleepy(ins, max(latches, 1))
	}
	return d.watched(ins, latches, ands)
}

// counting has so many latches that count up from 0 in each step, or, with an input, in each step in which it is 1; its check is that they never reach a number.
func counting(latches, number int, asked bool) impl.Aig {
	a := impl.Aig{Clocks: []string{"c"}}
	carry := 1
	if asked {
		a.Ins, carry = []string{"e"}, 2
	}
	first := 1 + len(a.Ins) + latches
	and := func(x, y int) int {
		a.Ands = append(a.Ands, impl.And{A: x, B: y})
		return 2 * (first + len(a.Ands) - 1)
	}
	for i := range latches {
		own := 2 * (1 + len(a.Ins) + i)
		only, other := and(own, litTurned(carry)), and(litTurned(own), carry)
		a.Latches = append(a.Latches, impl.Latch{Name: fmt.Sprint("l", i), Next: litTurned(and(litTurned(only), litTurned(other)))})
		carry = and(own, carry)
	}
	var lits []int
	for i := range latches {
		lits = append(lits, 2*(1+len(a.Ins)+i)+1-number>>i%2)
	}
	never(&a, lits)
	return a
}

// spoiltTexts changes one of some texts, or leaves one out, or puts one in.
func (d *draughtsman) spoiltTexts(texts []string) []string {
	texts = slices.Clone(texts)
	if len(texts) == 0 {
		return append(texts, d.oneOf("", "0", "1"))
	}
	at := d.below(len(texts))
	text := texts[at]
	switch kind := d.below(8); {
	case kind == 0:
		return slices.Delete(texts, at, at+1)
	case kind == 1:
		return slices.Insert(texts, at, text)
	case kind == 2:
		texts[at] = text + d.oneOf("0", "1")
	case text == "":
		texts[at] = d.oneOf("0", "\x00", "x")
	case kind == 3:
		texts[at] = text[1:]
	case kind == 4:
		place := d.below(len(text))
		texts[at] = text[:place] + d.oneOf("x", "z", "2", " ", "\x00", "\xff", "é", "/", "/0") + text[place+1:]
	default:
		place := d.below(len(text))
		texts[at] = text[:place] + string(97-text[place]) + text[place+1:]
	}
	return texts
}

// spoiltTraces changes one of some traces, or their number or order. Literals are of so many variables.
func (d *draughtsman) spoiltTraces(traces [][][]int, vars int) [][][]int {
	l := &logician{d.choices}
	defer func() { d.choices = l.choices }()
	traces = slices.Clone(traces)
	if len(traces) == 0 {
		return append(traces, [][]int{{}})
	}
	at := l.below(len(traces))
	switch l.below(6) {
	case 0:
		return slices.Delete(traces, at, at+1)
	case 1:
		return slices.Insert(traces, at, clausesCopied(traces[at]))
	case 2:
		other := l.below(len(traces))
		traces[at], traces[other] = traces[other], traces[at]
	case 3:
		traces[at] = [][]int{{}}
	default:
		traces[at] = l.spoilt(vars, traces[at])
	}
	return traces
}

// spoiltProof changes one field of a proof.
func (d *draughtsman) spoiltProof(p impl.Proof, vars int) impl.Proof {
	p = proofCopied(p)
	switch d.below(7) {
	case 0:
		p.Kind = d.below(7) - 1
	case 1:
		p.Steps += 1 - 2*d.below(2)
	case 2:
		p.State = d.oneOf("", "0", "1", "10")
	case 3, 4:
		p.Inputs = d.spoiltTexts(p.Inputs)
	default:
		p.Traces = d.spoiltTraces(p.Traces, vars)
	}
	return p
}

// variant is a graph with the same names about it, which may tell other things: one and, Next, Init, out or check is changed, or several.
func (d *draughtsman) variant(a impl.Aig) impl.Aig {
	a = roomyAig(a)
	first := 1 + len(a.Ins) + len(a.Latches)
	for range 1 + d.below(3)/2 {
		last := first + len(a.Ands)
		switch kind := d.below(6); {
		case kind == 0 && len(a.Latches) > 0:
			a.Latches[d.below(len(a.Latches))].Init ^= 1
		case kind == 1 && len(a.Latches) > 0:
			a.Latches[d.below(len(a.Latches))].Next = d.lit(last)
		case kind == 2 && len(a.Outs) > 0:
			a.Outs[d.below(len(a.Outs))].Lit = d.lit(last)
		case kind == 3 && len(a.Checks) > 0:
			a.Checks[d.below(len(a.Checks))].Lit ^= 1
		case len(a.Ands) > 0:
			at := d.below(len(a.Ands))
			a.Ands[at].A = d.lit(first + at)
		}
	}
	return a
}

// doubled is a graph that tells the same: a latch that begins and goes on as one of the others does stands behind them, and is read in its place by some.
func (d *draughtsman) doubled(a impl.Aig) impl.Aig {
	if len(a.Latches) == 0 {
		return a
	}
	a = roomyAig(a)
	old := d.below(len(a.Latches))
	variable, other := 1+len(a.Ins)+old, 1+len(a.Ins)+len(a.Latches)
	moved := func(lit int) int {
		switch {
		case lit/2 == variable && d.below(2) == 0:
			return 2*other + lit%2
		case lit/2 >= other:
			return lit + 2
		}
		return lit
	}
	twin := a.Latches[old]
	twin.Name += "again"
	a.Latches = append(a.Latches, twin)
	for i := range a.Ands {
		a.Ands[i] = impl.And{A: moved(a.Ands[i].A), B: moved(a.Ands[i].B)}
	}
	for i := range a.Latches {
		a.Latches[i].Next = moved(a.Latches[i].Next)
	}
	for _, pins := range [][]impl.Pin{a.Outs, a.Checks} {
		for i := range pins {
			pins[i].Lit = moved(pins[i].Lit)
		}
	}
	return a
}
