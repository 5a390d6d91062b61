package tests

import (
	"fmt"
	"slices"
	"testing"

	"loop.example/g00031/impl"
)

// tangled draws a graph whose ands read, mostly, one of so many variables ahead of them; of so many literals one is an opposite (0: none).
func (d *draughtsman) tangled(ins, latches, ands, near, turned int) impl.Aig {
	a := d.aig(ins, latches, ands)
	first := 1 + ins + latches
	for i := range a.Ands {
		lit := func() int {
			variable := first + i - 1 - d.below(min(near, first+i))
			if d.below(4) == 0 {
				variable = d.below(first + i)
			}
			return 2*variable + numberIf(turned > 0 && d.below(max(turned, 1)) == 0)
		}
		a.Ands[i] = impl.And{A: lit(), B: lit()}
	}
	return a
}

// anyTangled is one with unlike bounds.
func (d *draughtsman) anyTangled() impl.Aig {
	return d.tangled(1+d.below(5), d.below(4), 10+d.below(60), 2+d.below(8), []int{0, 2, 3, 8}[d.below(4)])
}

// allInputs are steps with all that can come in, if that is not too much, and others.
func (d *draughtsman) allInputs(a impl.Aig) []impl.Step {
	steps := d.steps(a, 8)
	if len(a.Ins) > 5 {
		return append(steps, d.steps(a, 24)...)
	}
	for number := range 1 << len(a.Ins) {
		step := d.steps(a, 1)[0]
		for i := range step.Ins {
			step.Ins[i] = fmt.Sprint(number >> i & 1)
		}
		steps = append(steps, step)
	}
	return steps
}

// endNames are all names of a graph, with what else stays of latches.
func endNames(a impl.Aig) string {
	text := fmt.Sprintf("%q %q", a.Ins, a.Clocks)
	for _, l := range a.Latches {
		text += fmt.Sprintf(" %q=%d@%d", l.Name, l.Init, l.Clock)
	}
	for _, pins := range [][]impl.Pin{a.Outs, a.Checks} {
		text += " |"
		for _, p := range pins {
			text += fmt.Sprintf(" %q", p.Name)
		}
	}
	return text
}

// holdSame: a graph that was made of another one is one, has its names, tells the same row by row, and comes back from its bytes.
func holdSame(t *testing.T, what string, a, made impl.Aig, steps []impl.Step) {
	t.Helper()
	if !impl.AigOK(made) || endNames(made) != endNames(a) {
		t.Fatalf("%s: %s\nis made\n%s", what, aigShown(a), aigShown(made))
	}
	rows, code := impl.AigRun(a, steps)
	told, madeCode := impl.AigRun(made, steps)
	if code != impl.OK || madeCode != impl.OK || rowsShown(rows) != rowsShown(told) {
		t.Fatalf("%s: %s\nis made\n%s\n%v: codes %d, %d\n%s, but then it tells\n%s", what, aigWritten(a), aigWritten(made), steps, code, madeCode, rowsShown(rows), rowsShown(told))
	}
	b, code := impl.AigBytes(made)
	if code == impl.ErrLong {
		return
	}
	if back, readCode := impl.ReadAig(b); code != impl.OK || readCode != impl.OK || aigShown(back) != aigShown(made) {
		t.Fatalf("%s: %s: codes %d, %d, read as\n%s", what, aigShown(made), code, readCode, aigShown(back))
	}
}

// holdShaped: promise 12 of one graph: rewritten, balanced, and one behind the other it tells the same; balanced it is not deeper.
func holdShaped(t *testing.T, a impl.Aig, steps []impl.Step) (rewritten, balanced impl.Aig) {
	t.Helper()
	rewritten, code := holdRewrite(t, a)
	if code != impl.OK || len(rewritten.Ands) > len(a.Ands) {
		t.Fatalf("%s: rewritten: code %d, %d ands", aigWritten(a), code, len(rewritten.Ands))
	}
	holdSame(t, "rewritten", a, rewritten, steps)
	again, _ := holdRewrite(t, rewritten)
	holdSame(t, "rewritten twice", a, again, steps)
	for what, from := range map[string]impl.Aig{"balanced": a, "rewritten and balanced": rewritten} {
		made, code := holdBalance(t, from)
		if code != impl.OK || impl.Depth(made) > impl.Depth(from) || impl.Depth(made) != depthTold(made) || impl.Depth(from) != depthTold(from) {
			t.Fatalf("%s: %s: code %d, depth %d, but it was %d", what, aigWritten(from), code, impl.Depth(made), impl.Depth(from))
		}
		holdSame(t, what, a, made, steps)
		behind, _ := holdRewrite(t, made)
		holdSame(t, what+" and rewritten", a, behind, steps)
		if what == "balanced" {
			balanced = made
		}
	}
	return rewritten, balanced
}

// Promise 12 of drawn graphs of all kinds.
func TestShapedGraphs(t *testing.T) {
	counts := map[string]int{}
	for seed := range uint64(700) {
		d := draughtsmanOf(seed + 100)
		a := d.any()
		if seed%2 == 0 {
			a = d.anyTangled()
		}
		rewritten, balanced := holdShaped(t, a, d.allInputs(a))
		counts["fewer ands"] += numberIf(len(rewritten.Ands) < len(a.Ands) && len(rewritten.Ands) > 0)
		counts["no ands"] += numberIf(len(rewritten.Ands) == 0 && len(a.Ands) > 0)
		counts["less deep"] += numberIf(impl.Depth(balanced) < impl.Depth(a))
		counts["as deep"] += numberIf(impl.Depth(balanced) == impl.Depth(a) && impl.Depth(a) > 2)
		counts["balanced, fewer ands"] += numberIf(len(balanced.Ands) < len(a.Ands))
		counts["many ands"] += numberIf(len(rewritten.Ands) > 10)
		_, _, undecided := rewriteTold(a)
		counts["none decides"] += numberIf(undecided > 0)
		counts["latches"] += numberIf(len(a.Latches) > 0)
		counts["outs and checks"] += numberIf(len(a.Outs) > 0 && len(a.Checks) > 0)
	}
	wantsOften(t, counts, 15, []string{"fewer ands", "no ands", "less deep", "as deep", "balanced, fewer ands", "many ands", "none decides", "latches", "outs and checks"})
}

// rowed draws a graph of long rows: an and reads the one ahead of it, mostly, and an input; a row is told in between, now and then.
func (d *draughtsman) rowed(ins, ands int) impl.Aig {
	a := impl.Aig{Ins: wideAig(ins, 0, 0, 0, 0, 0).Ins}
	for i := range ands {
		own := 2 * (1 + ins + i)
		and := impl.And{A: own - 2, B: 2 + 2*d.below(ins)}
		if d.below(60) == 0 {
			and.A = d.lit(own / 2)
		}
		if d.below(300) == 0 {
			and.B++
		}
		a.Ands = append(a.Ands, and)
		if d.below(12) == 0 {
			a.Outs = append(a.Outs, impl.Pin{Name: fmt.Sprint("y", i), Lit: own + d.below(2)})
		}
	}
	a.Checks = []impl.Pin{{Name: "k", Lit: 2 * (ins + ands)}}
	return a
}

// mostly are steps in which most inputs are 1, by which long rows are, too.
func mostly(d *draughtsman, a impl.Aig) []impl.Step {
	steps := d.steps(a, 20)
	for i := range steps {
		for k := range steps[i].Ins {
			if d.below(3*(1+i)) > 0 {
				steps[i].Ins[k] = "1"
			}
		}
	}
	return steps
}

// Promise 12 of graphs with many parts, also of more than MaxParts.
func TestShapedRows(t *testing.T) {
	counts := map[string]int{}
	for seed := range uint64(60) {
		d := draughtsmanOf(seed + 300)
		a := d.rowed(30+d.below(100), 60+d.below(160))
		_, balanced := holdShaped(t, a, mostly(d, a))
		most := 0
		for _, and := range a.Ands {
			most = max(most, len(waysOfGraph(a).allParts(and)))
		}
		counts["many parts"] += numberIf(most > 30 && most <= impl.MaxParts)
		counts["too many parts"] += numberIf(most > impl.MaxParts)
		counts["far less deep"] += numberIf(impl.Depth(balanced) < impl.Depth(a)/2)
		counts["more ands"] += numberIf(len(balanced.Ands) > len(a.Ands))
	}
	wantsOften(t, counts, 10, []string{"many parts", "too many parts", "far less deep", "more ands"})
}

// Promise 12 of graphs of netlists.
func TestShapedNets(t *testing.T) {
	counts := map[string]int{}
	for seed := range uint64(300) {
		w := wirerOf(seed + 9000)
		var n impl.Net
		if seed%2 == 0 {
			n = w.net(5 + w.below(20))
		} else {
			n = w.knotted(5 + w.below(20))
		}
		n.Outs = nil
		for cell := range n.Cells {
			n.Outs = append(n.Outs, impl.NetOut{Name: fmt.Sprint("y", cell), Cell: cell})
		}
		steps := stepsFor(&w.choices, n, 6)
		a, code := impl.Blast(n)
		if code != impl.OK || len(a.Ands) > 800 {
			continue
		}
		rewritten, balanced := holdShaped(t, a, stepsBlasted(steps))
		rows, _ := impl.NetRun(n, steps)
		for _, made := range []impl.Aig{rewritten, balanced} {
			if told, _ := impl.AigRun(made, stepsBlasted(steps)); rowsShown(told) != rowsShown(rowsBlasted(rows)) {
				t.Fatalf("%s\n%s\n%v: %s, but the graph tells %s", netWritten(n), aigWritten(made), steps, rowsShown(rows), rowsShown(told))
			}
		}
		counts["nets"]++
		counts["latches"] += numberIf(len(a.Latches) > 0)
		counts["fewer ands"] += numberIf(len(rewritten.Ands) < len(a.Ands))
		counts["less deep"] += numberIf(impl.Depth(balanced) < impl.Depth(a))
		counts["ands"] += numberIf(len(a.Ands) > 20)
	}
	wantsOften(t, counts, 20, []string{"nets", "latches", "fewer ands", "less deep", "ands"})
}

// Promise 12 of netlists that were designs.
func TestShapedDesigns(t *testing.T) {
	done := 0
	for seed := range uint64(40) {
		s := smithOf(seed+4000, 0)
		n, _ := impl.Lower(s.design())
		small, _ := impl.Optimise(n)
		if a, code := impl.Blast(small); code == impl.OK && len(a.Ands) < 600 {
			holdShaped(t, a, stepsBlasted(s.steps(small, 6)))
			done++
		}
	}
	if done < 20 {
		t.Errorf("only %d", done)
	}
	a, _ := impl.Blast(netOf(t, countDown))
	holdShaped(t, a, slices.Repeat(stepsBlasted(stepsOf("0011/t")), 18))
}

// Promise 12 of each operation of two and three bits, with all that can come in.
func TestShapedOperations(t *testing.T) {
	for _, widths := range [][]int{{2, 2, 2}, {3, 3, 1}} {
		var inputs []int
		for i := range 1 << sumTold(widths) {
			inputs = append(inputs, i)
		}
		for _, c := range everyCell(widths[0], widths[1], widths[2]) {
			n := oneClock(widths, "in0 in1 in2")
			n.Cells = append(n.Cells, c)
			n.Outs = outsRead("y", "3")
			a, _ := impl.Blast(n)
			holdShaped(t, a, stepsBlasted(stepsTold(n, inputs)))
		}
	}
}

// otherMerged tells whether a cut has another table if it is put together of those of the operands' cuts, as there are leaves behind a leaf.
func otherMerged(a impl.Aig, cuts [][]impl.Cut, at int, c impl.Cut) bool {
	w := waysOfGraph(a)
	sets := func(variable int) [][]int {
		switch {
		case variable == 0:
			return [][]int{{}}
		case variable < w.first:
			return [][]int{{variable}}
		}
		var all [][]int
		for _, c := range cuts[variable-w.first] {
			all = append(all, c.Leaves)
		}
		return all
	}
	value := func(lit, row int, leaves []int) bool {
		what := map[int]bool{}
		for _, leaf := range leaves {
			what[leaf] = row>>slices.Index(c.Leaves, leaf)&1 == 1
		}
		return w.value(lit, what, map[int]bool{})
	}
	and := a.Ands[at]
	for _, first := range sets(and.A / 2) {
		for _, second := range sets(and.B / 2) {
			if !slices.Equal(setOf(slices.Concat(first, second)), c.Leaves) {
				continue
			}
			table := tableBy(len(c.Leaves), func(row int) bool { return value(and.A, row, first) && value(and.B, row, second) })
			if table != c.Table {
				return true
			}
		}
	}
	return false
}

// Cuts of drawn graphs, each of which is held against TableOf; none has all leaves of another one.
func TestCutsOfGraphs(t *testing.T) {
	counts := map[string]int{}
	for seed := range uint64(200) {
		d := draughtsmanOf(seed + 500)
		a := d.tangled(3+d.below(3), d.below(2), 60, 2+d.below(4), []int{0, 2, 3}[seed%3])
		if seed%5 == 0 {
			a = d.any()
		}
		for most := 2; most <= 4; most++ {
			cuts, _ := holdCuts(t, a, most)
			for at, list := range cuts {
				counts[fmt.Sprint("cuts ", len(list))]++
				for i, c := range list[:len(list)-1] {
					counts[fmt.Sprint("leaves ", len(c.Leaves))]++
					for k, other := range list {
						if k != i && allOf(c.Leaves, other.Leaves) {
							t.Fatalf("%s: %v has all leaves of %v", aigWritten(a), c, other)
						}
					}
					counts["leaves behind leaves"] += numberIf(most == 4 && len(c.Leaves) > 2 && otherMerged(a, cuts, at, c))
				}
			}
		}
	}
	wantsOften(t, counts, 50, []string{"cuts 2", "cuts 3", "cuts 4", "cuts 5", "cuts 6", "cuts 7", "cuts 8", "leaves 0", "leaves 1", "leaves 2", "leaves 3", "leaves 4"})
	wantsOften(t, counts, 10, []string{"leaves behind leaves"})
}

// Tables of any literals and leaves of drawn graphs.
func TestTablesOfGraphs(t *testing.T) {
	counts := map[string]int{}
	for seed := range uint64(600) {
		d := draughtsmanOf(seed + 700)
		a := d.tangled(d.below(4), d.below(2), d.below(25), 1+d.below(6), 2)
		variables := 1 + len(a.Ins) + len(a.Latches) + len(a.Ands)
		for range 40 {
			var leaves []int
			for range d.below(6) {
				leaves = append(leaves, d.below(variables))
			}
			if d.below(8) > 0 {
				leaves = slices.DeleteFunc(setOf(leaves), func(leaf int) bool { return leaf == 0 })
			}
			lit := d.below(2*variables+1) - d.below(2)*d.below(2)
			table, code := holdTable(t, a, lit, leaves)
			counts[fmt.Sprint("code ", code)]++
			counts["more than a bit"] += numberIf(table > 2)
			if code == impl.OK {
				counts[fmt.Sprint("leaves ", len(leaves))]++
				if other, _ := impl.TableOf(a, lit^1, leaves); table^other != tableBy(len(leaves), func(row int) bool { return true }) {
					t.Fatalf("%s: %d, %v: %d and %d", aigWritten(a), lit, leaves, table, other)
				}
			}
		}
	}
	wantsOften(t, counts, 200, []string{"code 0", fmt.Sprint("code ", impl.ErrBad), fmt.Sprint("code ", impl.ErrKind), "more than a bit", "leaves 0", "leaves 1", "leaves 2", "leaves 3", "leaves 4"})
}

// A graph with one piece changed is one or none; each call says so.
func TestBentGraphsShaped(t *testing.T) {
	right, wrong := 0, 0
	for seed := range uint64(1500) {
		d := draughtsmanOf(seed + 30000)
		a := d.aig(d.below(4), d.below(4), d.below(12))
		d.bent(&a)
		holdTable(t, a, d.below(12)-1, []int{1, 2})
		holdCuts(t, a, 1+d.below(5))
		holdRewrite(t, a)
		_, code := holdBalance(t, a)
		if depth := impl.Depth(a); depth != depthTold(a) || (depth < 0) != (code == impl.ErrBad) {
			t.Fatalf("%s: depth %d, code %d", aigShown(a), depth, code)
		}
		right += numberIf(code == impl.OK)
		wrong += numberIf(code == impl.ErrBad)
	}
	if right < 200 || wrong < 400 {
		t.Errorf("%d right, %d wrong", right, wrong)
	}
}

func cutsApart(t *testing.T, cuts [][]impl.Cut, seen map[any]bool) {
	t.Helper()
	listApart(t, cuts, seen)
	for _, list := range cuts {
		listApart(t, list, seen)
		for _, c := range list {
			listApart(t, c.Leaves, seen)
		}
	}
}

// Promise 1: no argument is written into, not behind its end either; answers are new memory, and no two lists of one share any.
func TestCutsKeepArguments(t *testing.T) {
	for seed := range uint64(200) {
		d := draughtsmanOf(seed + 800)
		a := roomyAig(d.anyTangled())
		leaves, lit := roomyList([]int{1, 1 + d.below(3)}, 77), 2*d.below(8)
		told := func() string { return wholeAig(a) + fmt.Sprint(leaves[:cap(leaves)]) }
		before := told()
		seen := map[any]bool{}
		aigApart(t, a, seen)
		listApart(t, leaves, seen)
		var answers []string
		for range 2 {
			table, code := impl.TableOf(a, lit, leaves)
			cuts, _ := impl.Cuts(a, 4)
			cutsApart(t, cuts, seen)
			rewritten, _ := impl.Rewrite(a)
			aigApart(t, rewritten, seen)
			balanced, _ := impl.Balance(a)
			aigApart(t, balanced, seen)
			answers = append(answers, fmt.Sprint(table, code, impl.Depth(a))+cutsShown(cuts)+aigShown(rewritten)+aigShown(balanced))
		}
		if told() != before {
			t.Fatalf("%s: the arguments were changed", before)
		}
		if answers[0] != answers[1] {
			t.Fatalf("%s: another answer", before)
		}
	}
}
