package tests

import (
	"fmt"
	"slices"
	"strings"

	"loop.example/g00031/impl"
)

// aigRead reads a graph: inputs, clocks, latches, ands, outs and checks with `|` between them; a latch is a name, its Init, its Next and its clock, as l=0<7@0, an and its literals, as 2,5, an out or check a name and its literal, as y:6.
func aigRead(text string) impl.Aig {
	parts := append(strings.Split(text, "|"), "", "", "", "", "")
	a := impl.Aig{Ins: strings.Fields(parts[0]), Clocks: strings.Fields(parts[1])}
	for word := range strings.FieldsSeq(parts[2]) {
		name, rest, _ := strings.Cut(word, "=")
		init, rest, _ := strings.Cut(rest, "<")
		next, clock, _ := strings.Cut(rest, "@")
		a.Latches = append(a.Latches, impl.Latch{Name: name, Init: numberRead(init), Next: numberRead(next), Clock: numberRead(clock)})
	}
	for word := range strings.FieldsSeq(parts[3]) {
		first, second, _ := strings.Cut(word, ",")
		a.Ands = append(a.Ands, impl.And{A: numberRead(first), B: numberRead(second)})
	}
	a.Outs, a.Checks = pinsRead(parts[4]), pinsRead(parts[5])
	return a
}

func pinsRead(text string) []impl.Pin {
	var pins []impl.Pin
	for word := range strings.FieldsSeq(text) {
		name, lit, _ := strings.Cut(word, ":")
		pins = append(pins, impl.Pin{Name: name, Lit: numberRead(lit)})
	}
	return pins
}

// aigWritten writes a graph as aigRead reads it.
func aigWritten(a impl.Aig) string {
	var latches, outs, checks []string
	for _, l := range a.Latches {
		latches = append(latches, fmt.Sprintf("%s=%d<%d@%d", l.Name, l.Init, l.Next, l.Clock))
	}
	for _, p := range a.Outs {
		outs = append(outs, fmt.Sprint(p.Name, ":", p.Lit))
	}
	for _, p := range a.Checks {
		checks = append(checks, fmt.Sprint(p.Name, ":", p.Lit))
	}
	var parts []string
	for _, part := range [][]string{a.Ins, a.Clocks, latches, andsWritten(a), outs, checks} {
		parts = append(parts, strings.Join(part, " "))
	}
	return strings.Join(parts, " | ")
}

func andsWritten(a impl.Aig) []string {
	var ands []string
	for _, and := range a.Ands {
		ands = append(ands, fmt.Sprint(and.A, ",", and.B))
	}
	return ands
}

func aigShown(a impl.Aig) string { return fmt.Sprintf("%+v", a) }

// theAig counts up by i with two latches of one clock, and keeps with another one what j was; its ands are those of two xors and a carry.
const theAig = "i j | c d | l=0<17@0 m=1<25@0 n=0<4@1 | 2,7 3,6 13,15 2,6 8,19 9,18 21,23 | y:6 z:9 w:11 | k:17 q:24"

func theGraph() impl.Aig { return aigRead(theAig) }

// draughtsman draws graphs with all kinds of ands, those too that Blast never makes: of false and true, of one literal twice, of opposites, the greater literal first, the same and twice.
type draughtsman struct{ choices }

func draughtsmanOf(seed uint64) *draughtsman {
	return &draughtsman{choices{seed: seed*0x9e3779b97f4a7c15 | 1}}
}

// names are so many, of which no two are the same, of any bytes and of unlike lengths.
func (d *draughtsman) names(count int) []string {
	var all []string
	for i := range count {
		name := fmt.Sprint(d.oneOf("a", "b[", "\x00", "\xff\x80", " ", "é", "x.y "), i)
		if d.below(40) == 0 {
			name += strings.Repeat("n", []int{127, 128, 129, 1000}[d.below(4)]-len(name))
		}
		all = append(all, name)
	}
	return mixed(&d.choices, all)
}

// lit is a literal of the first variables, more often of the last of them.
func (d *draughtsman) lit(variables int) int {
	variable := d.below(variables)
	if d.below(2) == 0 {
		variable = variables - 1 - d.below(min(variables, 8))
	}
	return 2*variable + d.below(2)
}

func (d *draughtsman) aig(ins, latches, ands int) impl.Aig {
	var a impl.Aig
	clocks := d.below(4)
	if latches > 0 {
		clocks++
	}
	names := d.names(ins + clocks)
	a.Ins, a.Clocks = names[:ins:ins], names[ins:]
	first := 1 + ins + latches
	for i := range ands {
		and := impl.And{A: d.lit(first + i), B: d.lit(first + i)}
		switch {
		case d.below(12) == 0:
			and.B = and.A ^ d.below(2)
		case d.below(8) == 0 && i > 0:
			and = a.Ands[d.below(i)]
		}
		a.Ands = append(a.Ands, and)
	}
	for _, name := range d.names(latches) {
		a.Latches = append(a.Latches, impl.Latch{Name: name, Next: d.lit(first + ands), Init: d.below(2), Clock: d.below(clocks)})
	}
	a.Outs, a.Checks = d.pins(first+ands), d.pins(first+ands)
	return a
}

func (d *draughtsman) pins(variables int) []impl.Pin {
	var pins []impl.Pin
	for _, name := range d.names(d.below(5)) {
		pins = append(pins, impl.Pin{Name: name, Lit: d.lit(variables)})
	}
	return pins
}

// any is a graph of any size, now and then with numbers of several bytes.
func (d *draughtsman) any() impl.Aig {
	ands := d.below(40)
	if d.below(10) == 0 {
		ands = 60 + d.below(120)
	}
	return d.aig(d.below(6), d.below(6), ands)
}

// steps have a bit for each input, and clocks that tick or not.
func (d *draughtsman) steps(a impl.Aig, count int) []impl.Step {
	var all []impl.Step
	for range count {
		var step impl.Step
		for range a.Ins {
			step.Ins = append(step.Ins, d.oneOf("0", "1"))
		}
		for range a.Clocks {
			step.Ticks = append(step.Ticks, d.below(3) > 0)
		}
		all = append(all, step)
	}
	return all
}

// aigPieces are all numbers and texts of a graph that can be changed.
func aigPieces(a *impl.Aig) (numbers []*int, texts []*string) {
	for _, list := range [][]string{a.Ins, a.Clocks} {
		for i := range list {
			texts = append(texts, &list[i])
		}
	}
	for i := range a.Latches {
		l := &a.Latches[i]
		numbers, texts = append(numbers, &l.Next, &l.Init, &l.Clock), append(texts, &l.Name)
	}
	for i := range a.Ands {
		numbers = append(numbers, &a.Ands[i].A, &a.Ands[i].B)
	}
	for _, list := range [][]impl.Pin{a.Outs, a.Checks} {
		for i := range list {
			numbers, texts = append(numbers, &list[i].Lit), append(texts, &list[i].Name)
		}
	}
	return numbers, texts
}

// bent changes one piece of a graph.
func (d *draughtsman) bent(a *impl.Aig) {
	numbers, texts := aigPieces(a)
	kind := d.below(6)
	switch {
	case kind == 0 && len(texts) > 0:
		text := texts[d.below(len(texts))]
		*text = d.oneOf("", *text+"0", "x", *texts[d.below(len(texts))], strings.Repeat("n", 1000), strings.Repeat("n", 1001))
	case kind == 1 && len(a.Ins) > 0:
		a.Ins = a.Ins[1:]
	case kind == 2 && len(a.Clocks) > 0:
		a.Clocks = a.Clocks[:len(a.Clocks)-1]
	case kind == 3 && len(a.Ands) > 0:
		at := d.below(len(a.Ands))
		a.Ands = slices.Delete(a.Ands, at, at+1)
	case len(numbers) > 0:
		*numbers[d.below(len(numbers))] += []int{1, -1, 2, -2, 31, 1 << 40}[d.below(6)]
	}
}

// roomyAig is a copy with room behind each list.
func roomyAig(a impl.Aig) impl.Aig {
	return impl.Aig{
		Ins: roomyList(a.Ins, "behind"), Clocks: roomyList(a.Clocks, "behind"), Latches: roomyList(a.Latches, impl.Latch{Name: "behind"}),
		Ands: roomyList(a.Ands, impl.And{A: -7}), Outs: roomyList(a.Outs, impl.Pin{Name: "behind"}), Checks: roomyList(a.Checks, impl.Pin{Name: "behind"}),
	}
}

func roomyList[T any](list []T, behind T) []T {
	return append(slices.Clone(list), behind)[:len(list)]
}

// wholeAig writes a graph out with what stands behind its lists.
func wholeAig(a impl.Aig) string {
	return fmt.Sprint(a.Ins[:cap(a.Ins)], a.Clocks[:cap(a.Clocks)], a.Latches[:cap(a.Latches)], a.Ands[:cap(a.Ands)], a.Outs[:cap(a.Outs)], a.Checks[:cap(a.Checks)])
}

// roomySteps are copies with room behind each list.
func roomySteps(steps []impl.Step) []impl.Step {
	var all []impl.Step
	for _, s := range steps {
		all = append(all, impl.Step{Ins: roomyList(s.Ins, "behind"), Ticks: roomyList(s.Ticks, true)})
	}
	return roomyList(all, impl.Step{Ins: []string{"behind"}})
}

func wholeSteps(steps []impl.Step) string {
	text := ""
	for _, s := range steps[:cap(steps)] {
		text += fmt.Sprint(s.Ins[:cap(s.Ins)], s.Ticks[:cap(s.Ticks)])
	}
	return text
}
