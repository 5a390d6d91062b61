package tests

import (
	"fmt"
	"slices"

	"loop.example/g00031/impl"
)

// remadeTold makes all ands of a graph in another one, where its inputs and latches are those literals there; it answers what a literal is there.
func (b *blast) remadeTold(a impl.Aig, held []int) func(lit int) int {
	values := append([]int{0}, held...)
	value := func(lit int) int {
		if lit%2 == 1 {
			return litTurned(values[lit/2])
		}
		return values[lit/2]
	}
	for _, and := range a.Ands {
		values = append(values, b.and(value(and.A), value(and.B)))
	}
	return value
}

// unrollTold says what Unroll must answer.
func unrollTold(a impl.Aig, steps int, free bool) (impl.Aig, int) {
	switch {
	case !aigTold(a):
		return impl.Aig{}, impl.ErrBad
	case len(a.Clocks) > 1:
		return impl.Aig{}, impl.ErrKind
	case steps < 1 || steps > 16:
		return impl.Aig{}, impl.ErrRange
	case len(a.Ins)*steps+len(a.Latches)*numberIf(free) > 2048 || len(a.Outs)*steps > 2048 || len(a.Checks)*steps > 2048:
		return impl.Aig{}, impl.ErrMany
	}
	var whole impl.Aig
	var latches []int
	for i, l := range a.Latches {
		if free {
			whole.Ins = append(whole.Ins, l.Name+"@0")
			latches = append(latches, 2*i+2)
		} else {
			latches = append(latches, l.Init)
		}
	}
	ins := make([][]int, steps)
	for s := range ins {
		for _, name := range a.Ins {
			whole.Ins = append(whole.Ins, fmt.Sprint(name, "@", s+1))
			ins[s] = append(ins[s], 2*len(whole.Ins))
		}
	}
	b := &blast{first: 1 + len(whole.Ins), places: map[[2]int]int{}}
	for s := range ins {
		ahead := b.remadeTold(a, slices.Concat(ins[s], latches))
		latches = nil
		for _, l := range a.Latches {
			latches = append(latches, ahead(l.Next))
		}
		behind := b.remadeTold(a, slices.Concat(ins[s], latches))
		for _, p := range a.Outs {
			whole.Outs = append(whole.Outs, impl.Pin{Name: fmt.Sprint(p.Name, "@", s+1), Lit: behind(p.Lit)})
		}
		for _, p := range a.Checks {
			whole.Checks = append(whole.Checks, impl.Pin{Name: fmt.Sprint(p.Name, "@", s+1), Lit: behind(p.Lit)})
		}
		if len(b.ands) > 8192 {
			return impl.Aig{}, impl.ErrMany
		}
	}
	if code := namesFault(whole); code != impl.OK {
		return impl.Aig{}, code
	}
	return b.kept(whole), impl.OK
}

// badTold is an unrolled graph with the ands of bad behind its own, and bad. So many of its checks are those of a step.
func badTold(whole impl.Aig, ofStep int, free bool) (impl.Aig, int) {
	b := &blast{first: 1 + len(whole.Ins), places: map[[2]int]int{}}
	for at, and := range whole.Ands {
		pair := [2]int{and.A, and.B}
		b.ands, b.places[pair] = append(b.ands, pair), at
	}
	all := func(pins []impl.Pin) int {
		is := 1
		for _, p := range pins {
			is = b.and(is, p.Lit)
		}
		return is
	}
	last := len(whole.Checks) - ofStep
	bad := litTurned(all(whole.Checks[last:]))
	if free {
		bad = b.and(all(whole.Checks[:last]), bad)
	}
	whole.Ands = nil
	for _, pair := range b.ands {
		whole.Ands = append(whole.Ands, impl.And{A: pair[0], B: pair[1]})
	}
	return whole, bad
}

// dueTold are the clauses of the first steps of a graph with checks.
func dueTold(a impl.Aig, steps int, free bool) (int, [][]int, int) {
	whole, code := unrollTold(a, steps, free)
	if code != impl.OK {
		return 0, nil, code
	}
	behind, bad := badTold(whole, len(a.Checks), free)
	if len(behind.Ands) > 8192 {
		return 0, nil, impl.ErrMany
	}
	return tseitinTold(behind, bad)
}

// textsTold cuts the values of inputs into the texts of so many steps.
func textsTold(values []int, steps, ins int) []string {
	var texts []string
	for range steps {
		texts = append(texts, modelWritten(values[:ins]))
		values = values[ins:]
	}
	return texts
}

// boundedTold says what Bounded must answer: one step behind the other, no further than the first that decides. (Chapter 14 is taken as it is.)
func boundedTold(a impl.Aig, steps, work int) (impl.Proof, int) {
	if _, code := unrollTold(a, steps, false); code != impl.OK {
		return impl.Proof{}, code
	}
	if work < 1 || work > 4000 {
		return impl.Proof{}, impl.ErrRange
	}
	if len(a.Checks) == 0 {
		return impl.Proof{}, impl.ErrMissing
	}
	p := impl.Proof{Kind: 1, Steps: steps}
	for s := 1; s <= steps; s++ {
		vars, clauses, code := dueTold(a, s, false)
		if code != impl.OK {
			return impl.Proof{}, code
		}
		r, code := impl.Solve(vars, clauses, work)
		if code != impl.OK {
			return impl.Proof{}, code
		}
		if r.Kind == impl.Sat {
			return impl.Proof{Kind: 2, Steps: s, Inputs: textsTold(r.Model[1:], s, len(a.Ins))}, impl.OK
		}
		p.Traces = append(p.Traces, r.Trace)
	}
	return p, impl.OK
}

// inductionTold says what Induction must answer.
func inductionTold(a impl.Aig, steps, work int) (impl.Proof, int) {
	p, code := boundedTold(a, steps, work)
	if code != impl.OK || p.Kind == 2 {
		return p, code
	}
	vars, clauses, code := dueTold(a, steps+1, true)
	if code != impl.OK {
		return impl.Proof{}, code
	}
	r, code := impl.Solve(vars, clauses, work)
	if code != impl.OK {
		return impl.Proof{}, code
	}
	if r.Kind == impl.Unsat {
		return impl.Proof{Kind: 3, Steps: steps, Traces: append(p.Traces, r.Trace)}, impl.OK
	}
	latches := len(a.Latches)
	return impl.Proof{Kind: 4, Steps: steps, State: modelWritten(r.Model[1 : 1+latches]), Inputs: textsTold(r.Model[1+latches:], steps+1, len(a.Ins))}, impl.OK
}

// miterTold says what Miter must answer.
func miterTold(a, b impl.Aig) (impl.Aig, int) {
	if !aigTold(a) || !aigTold(b) {
		return impl.Aig{}, impl.ErrBad
	}
	about := func(a impl.Aig) string {
		text := fmt.Sprintf("%q %q", a.Ins, a.Clocks)
		for _, p := range a.Outs {
			text += fmt.Sprintf(" %q", p.Name)
		}
		text += " |"
		for _, p := range a.Checks {
			text += fmt.Sprintf(" %q", p.Name)
		}
		return text
	}
	if about(a) != about(b) {
		return impl.Aig{}, impl.ErrKind
	}
	both := impl.Aig{Ins: slices.Clone(a.Ins), Clocks: slices.Clone(a.Clocks)}
	var lits [2][]int
	for i := range a.Ins {
		lits[0], lits[1] = append(lits[0], 2*i+2), append(lits[1], 2*i+2)
	}
	next := 1 + len(a.Ins)
	for k, g := range []impl.Aig{a, b} {
		for range g.Latches {
			lits[k] = append(lits[k], 2*next)
			next++
		}
	}
	if next > 2049 {
		return impl.Aig{}, impl.ErrMany
	}
	made := &blast{first: next, places: map[[2]int]int{}}
	var value [2]func(lit int) int
	for k, g := range []impl.Aig{a, b} {
		value[k] = made.remadeTold(g, lits[k])
		for _, l := range g.Latches {
			both.Latches = append(both.Latches, impl.Latch{Name: []string{"a.", "b."}[k] + l.Name, Next: value[k](l.Next), Init: l.Init, Clock: l.Clock})
		}
	}
	same := 1
	for _, pins := range [][2][]impl.Pin{{a.Outs, b.Outs}, {a.Checks, b.Checks}} {
		for i := range pins[0] {
			unlike := made.xor(value[0](pins[0][i].Lit), value[1](pins[1][i].Lit))
			same = made.and(same, litTurned(unlike))
		}
	}
	if len(made.ands) > 8192 {
		return impl.Aig{}, impl.ErrMany
	}
	both.Checks = []impl.Pin{{Name: "same", Lit: same}}
	if code := namesFault(both); code != impl.OK {
		return impl.Aig{}, code
	}
	return made.kept(both), impl.OK
}

// equivTold says what Equiv must answer.
func equivTold(a, b impl.Aig, steps, work int) (impl.Proof, int) {
	both, code := miterTold(a, b)
	if code != impl.OK {
		return impl.Proof{}, code
	}
	return inductionTold(both, steps, work)
}

// tracesTold tells whether all traces show what is due.
func tracesTold(a impl.Aig, p impl.Proof) bool {
	for s := 1; s <= len(p.Traces); s++ {
		vars, clauses, code := dueTold(a, s, s == p.Steps+1)
		if code != impl.OK || !impl.CheckTrace(vars, clauses, p.Traces[s-1]) {
			return false
		}
	}
	return true
}

// checkProofTold says what CheckProof must answer.
func checkProofTold(a impl.Aig, p impl.Proof) bool {
	if !aigTold(a) || len(a.Clocks) > 1 || len(a.Checks) == 0 || p.Steps < 1 || p.Steps > 16 {
		return false
	}
	bare := p.State == "" && len(p.Inputs) == 0
	switch p.Kind {
	case 1:
		return bare && len(p.Traces) == p.Steps && tracesTold(a, p)
	case 2:
		if p.State != "" || len(p.Traces) > 0 || len(p.Inputs) != p.Steps {
			return false
		}
		for _, text := range p.Inputs {
			if len(text) != len(a.Ins) {
				return false
			}
		}
		rows, code := aigRunTold(a, ticking(a, p.Inputs))
		return code == impl.OK && slices.Contains(rows[p.Steps-1].Checks, "0")
	case 3:
		return bare && p.Steps < 16 && len(p.Traces) == p.Steps+1 && tracesTold(a, p)
	}
	return false
}

// ticking are the steps with these inputs, in each of which the clock ticks, if there is one.
func ticking(a impl.Aig, inputs []string) []impl.Step {
	var steps []impl.Step
	for _, text := range inputs {
		s := impl.Step{Ticks: []bool{true, true}[:min(len(a.Clocks), 2)]}
		for i := range len(text) {
			s.Ins = append(s.Ins, text[i:i+1])
		}
		steps = append(steps, s)
	}
	return steps
}
