package tests

import (
	"fmt"
	"slices"
	"testing"

	"loop.example/g00031/impl"
)

// mapNames are all names of a mapped design, with what else stays of registers, as endNames has a graph's.
func mapNames(m impl.Mapped) string {
	var a impl.Aig
	a.Ins, a.Clocks = m.Ins, m.Clocks
	for _, r := range m.Regs {
		a.Latches = append(a.Latches, impl.Latch{Name: r.Name, Init: r.Init, Clock: r.Clock})
	}
	for _, p := range m.Outs {
		a.Outs = append(a.Outs, impl.Pin{Name: p.Name})
	}
	for _, p := range m.Checks {
		a.Checks = append(a.Checks, impl.Pin{Name: p.Name})
	}
	return endNames(a)
}

// holdMapped: promise 13 of one graph: mapped with most 2, 3 and 4 it is a mapped design with the graph's names, no table has more inputs than most, and its rows are the graph's.
func holdMapped(t *testing.T, a impl.Aig, steps []impl.Step) map[int]impl.Mapped {
	t.Helper()
	rows, code := impl.AigRun(a, steps)
	if code != impl.OK {
		t.Fatalf("%s: code %d", aigWritten(a), code)
	}
	all := map[int]impl.Mapped{}
	for most := 2; most <= 4; most++ {
		m, code := holdLuts(t, a, most)
		if code == impl.ErrMany {
			continue
		}
		if code != impl.OK || !impl.MapOK(m) || !mapTold(m) || mapNames(m) != endNames(a) {
			t.Fatalf("%s\nmost %d: code %d, is mapped\n%s", aigWritten(a), most, code, mapShown(m))
		}
		if slices.ContainsFunc(m.Luts, func(l impl.Lut) bool { return len(l.In) > most }) {
			t.Fatalf("%s: most %d: %s", aigWritten(a), most, mapWritten(m))
		}
		if told, code := holdMapRun(t, m, steps); code != impl.OK || rowsShown(told) != rowsShown(rows) {
			t.Fatalf("%s\nmost %d: is mapped\n%s\n%v: code %d\n%s, but then it tells\n%s", aigWritten(a), most, mapWritten(m), steps, code, rowsShown(rows), rowsShown(told))
		}
		// an and is never farther behind as a table, and one table may be put behind
		if depth := holdMapDepth(t, m); depth > max(1, impl.Depth(a)) {
			t.Fatalf("%s: most %d: depth %d, but it was %d", aigWritten(a), most, depth, impl.Depth(a))
		}
		all[most] = m
	}
	return all
}

// holdMappedShapes holds a graph, rewritten and balanced too, and answers what the graph itself is mapped to.
func holdMappedShapes(t *testing.T, a impl.Aig, steps []impl.Step) map[int]impl.Mapped {
	t.Helper()
	rewritten, _ := impl.Rewrite(a)
	holdMapped(t, rewritten, steps)
	balanced, _ := impl.Balance(a)
	holdMapped(t, balanced, steps)
	both, _ := impl.Balance(rewritten)
	rows, _ := impl.AigRun(a, steps)
	for most, m := range holdMapped(t, both, steps) {
		if told, code := impl.MapRun(m, steps); code != impl.OK || rowsShown(told) != rowsShown(rows) {
			t.Fatalf("%s\nmost %d: rewritten, balanced and mapped\n%s\n%v: code %d\n%s, but then it tells\n%s", aigWritten(a), most, mapWritten(m), steps, code, rowsShown(rows), rowsShown(told))
		}
	}
	return holdMapped(t, a, steps)
}

// countMapped counts what there is of all kinds of literals and tables.
func countMapped(counts map[string]int, a impl.Aig, mapped map[int]impl.Mapped) {
	first := 1 + len(a.Ins) + len(a.Latches)
	lits := endLits(a)
	kinds := map[string]int{}
	for _, lit := range lits {
		kind := []string{"an and", "its opposite"}[lit%2]
		switch {
		case lit < 2:
			kind = []string{"false", "true"}[lit]
		case lit/2 < first:
			kind = []string{"a source", "a source's opposite"}[lit%2]
		}
		kinds[kind] = 1
		kinds["an and both ways"] = max(kinds["an and both ways"], numberIf(lit/2 >= first && slices.Contains(lits, litTurned(lit))))
	}
	kinds["a literal twice"] = numberIf(len(setOf(lits)) < len(lits))
	for most, m := range mapped {
		kinds[fmt.Sprint("deep by ", most)] = numberIf(impl.MapDepth(m) > 2)
		for _, l := range m.Luts {
			kinds[fmt.Sprint(len(l.In), " of In by ", most)] = 1
		}
	}
	kinds["fewer tables by more leaves"] = numberIf(len(mapped[4].Luts) < len(mapped[2].Luts))
	for kind, count := range kinds {
		counts[kind] += count
	}
}

// Promise 13 of drawn graphs of all kinds.
func TestMapsOfGraphs(t *testing.T) {
	counts := map[string]int{}
	for seed := range uint64(500) {
		d := draughtsmanOf(seed + 1100)
		a := d.any()
		if seed%2 == 0 {
			a = d.anyTangled()
		}
		countMapped(counts, a, holdMappedShapes(t, a, d.allInputs(a)))
	}
	wantsOften(t, counts, 20, []string{"an and", "its opposite", "false", "true", "a source", "a source's opposite", "an and both ways", "a literal twice",
		"deep by 2", "deep by 3", "deep by 4", "0 of In by 2", "1 of In by 2", "2 of In by 2", "3 of In by 3", "1 of In by 4", "2 of In by 4", "3 of In by 4", "4 of In by 4", "fewer tables by more leaves"})
}

// Promise 13 of long rows, and of graphs that tell very many literals.
func TestMapsOfRows(t *testing.T) {
	counts := map[string]int{}
	for seed := range uint64(40) {
		d := draughtsmanOf(seed + 1300)
		a := d.rowed(20+d.below(60), 60+d.below(120))
		variables := 1 + len(a.Ins) + len(a.Ands)
		for i := range d.below(150) {
			a.Checks = append(a.Checks, impl.Pin{Name: fmt.Sprint("q", i), Lit: d.below(2 * variables)})
		}
		countMapped(counts, a, holdMappedShapes(t, a, mostly(d, a)))
	}
	wantsOften(t, counts, 15, []string{"deep by 2", "deep by 3", "deep by 4", "an and both ways", "a literal twice", "fewer tables by more leaves"})
}

// Promise 13 of graphs of netlists, whose rows are the netlist's bits.
func TestMapsOfNets(t *testing.T) {
	counts := map[string]int{}
	for seed := range uint64(200) {
		w := wirerOf(seed + 19000)
		var n impl.Net
		if seed%2 == 0 {
			n = w.net(5 + w.below(20))
		} else {
			n = w.knotted(5 + w.below(20))
		}
		n.Outs = nil
		for cell := range n.Cells {
			n.Outs = append(n.Outs, impl.NetOut{Name: fmt.Sprint("y", cell), Cell: cell})
		}
		steps := stepsFor(&w.choices, n, 6)
		a, code := impl.Blast(n)
		if code != impl.OK || len(a.Ands) > 800 {
			continue
		}
		rows, _ := impl.NetRun(n, steps)
		mapped := holdMappedShapes(t, a, stepsBlasted(steps))
		for most, m := range mapped {
			if told, _ := impl.MapRun(m, stepsBlasted(steps)); rowsShown(told) != rowsShown(rowsBlasted(rows)) {
				t.Fatalf("%s\nmost %d: %s\n%v: %s, but mapped it tells %s", netWritten(n), most, mapWritten(m), steps, rowsShown(rows), rowsShown(told))
			}
		}
		countMapped(counts, a, mapped)
		counts["nets"]++
		counts["registers"] += numberIf(len(a.Latches) > 0)
	}
	wantsOften(t, counts, 20, []string{"nets", "registers", "an and", "its opposite", "deep by 2", "deep by 4"})
}

// Promise 13 of netlists that were designs.
func TestMapsOfDesigns(t *testing.T) {
	done := 0
	for seed := range uint64(40) {
		s := smithOf(seed+14000, 0)
		n, _ := impl.Lower(s.design())
		if a, code := impl.Blast(n); code == impl.OK && len(a.Ands) < 600 {
			holdMappedShapes(t, a, stepsBlasted(s.steps(n, 6)))
			done++
		}
	}
	if done < 20 {
		t.Errorf("only %d", done)
	}
	a, _ := impl.Blast(netOf(t, countDown))
	holdMappedShapes(t, a, slices.Repeat(stepsBlasted(stepsOf("0011/t")), 18))
}

// Promise 13 of each operation of two and three bits, with all that can come in.
func TestMapsOfOperations(t *testing.T) {
	for _, widths := range [][]int{{2, 2, 2}, {3, 3, 1}} {
		var inputs []int
		for i := range 1 << sumTold(widths) {
			inputs = append(inputs, i)
		}
		for _, c := range everyCell(widths[0], widths[1], widths[2]) {
			n := oneClock(widths, "in0 in1 in2")
			n.Cells = append(n.Cells, c)
			n.Outs = outsRead("y", "3")
			a, _ := impl.Blast(n)
			holdMappedShapes(t, a, stepsBlasted(stepsTold(n, inputs)))
		}
	}
}

// Drawn designs run as told; those of them that MapLuts never makes, too.
func TestMapsDrawn(t *testing.T) {
	counts := map[string]int{}
	for seed := range uint64(1500) {
		d := draughtsmanOf(seed + 1500)
		m := d.anyMapped()
		wantsMap(t, mapShown(m), m, true)
		holdMapRun(t, m, d.steps(impl.Aig{Ins: m.Ins, Clocks: m.Clocks}, d.below(8)))
		counts["deep"] += numberIf(holdMapDepth(t, m) > 5)
		for _, l := range m.Luts {
			counts[fmt.Sprint(len(l.In), " of In")]++
			counts["In that fall"] += numberIf(!slices.IsSorted(l.In))
		}
	}
	wantsOften(t, counts, 200, []string{"deep", "0 of In", "1 of In", "2 of In", "3 of In", "4 of In", "In that fall"})
}

// A design with one piece changed is one where the chapter's rules say so, and runs as told.
func TestBentMaps(t *testing.T) {
	right, wrong := 0, 0
	for seed := range uint64(4000) {
		d := draughtsmanOf(seed + 24000)
		m := d.mapped(d.below(5), d.below(5), d.below(12))
		steps := d.steps(impl.Aig{Ins: m.Ins, Clocks: m.Clocks}, 3)
		d.bentMap(&m)
		ok := mapTold(m)
		wantsMap(t, mapShown(m), m, ok)
		right += numberIf(ok)
		wrong += numberIf(!ok)
		holdMapRun(t, m, steps)
	}
	if right < 600 || wrong < 1000 {
		t.Errorf("%d right, %d wrong", right, wrong)
	}
}

// A graph with one piece changed is mapped, or is none.
func TestBentGraphsMapped(t *testing.T) {
	codes := map[int]int{}
	for seed := range uint64(1500) {
		d := draughtsmanOf(seed + 33000)
		a := d.aig(d.below(4), d.below(4), d.below(12))
		d.bent(&a)
		m, code := holdLuts(t, a, 1+d.below(5))
		wantsMap(t, aigShown(a), m, true)
		codes[code]++
	}
	if codes[impl.OK] < 150 || codes[impl.ErrBad] < 400 || codes[impl.ErrRange] < 100 {
		t.Errorf("codes %v", codes)
	}
}

func mapApart(t *testing.T, m impl.Mapped, seen map[any]bool) {
	t.Helper()
	listApart(t, m.Ins, seen)
	listApart(t, m.Clocks, seen)
	listApart(t, m.Regs, seen)
	listApart(t, m.Luts, seen)
	listApart(t, m.Outs, seen)
	listApart(t, m.Checks, seen)
	for _, l := range m.Luts {
		listApart(t, l.In, seen)
	}
}

// Promise 1: no argument is written into, not behind its end either; answers are new memory, and no two lists of one share any, not those of an and's table and its opposite's either.
func TestMapKeepsArguments(t *testing.T) {
	both := 0
	for seed := range uint64(300) {
		d := draughtsmanOf(seed + 1800)
		a, m := roomyAig(d.anyTangled()), roomyMap(d.anyMapped())
		for i := range a.Outs {
			// some ands both ways
			a.Checks = append(a.Checks, impl.Pin{Name: fmt.Sprint("turned ", i), Lit: litTurned(a.Outs[i].Lit)})
		}
		steps := roomySteps(d.steps(impl.Aig{Ins: m.Ins, Clocks: m.Clocks}, d.below(6)))
		told := func() string { return wholeAig(a) + wholeMap(m) + wholeSteps(steps) }
		before := told()
		seen, most := map[any]bool{}, 2+d.below(3)
		aigApart(t, a, seen)
		mapApart(t, m, seen)
		var answers []string
		for range 2 {
			impl.MapOK(m)
			rows, _ := impl.MapRun(m, steps)
			rowsApart(t, rows, seen)
			made, code := impl.MapLuts(a, most)
			mapApart(t, made, seen)
			answers = append(answers, fmt.Sprint(impl.MapDepth(m), code)+rowsShown(rows)+mapShown(made))
			both += numberIf(len(a.Outs) > 0 && code == impl.OK)
		}
		if told() != before {
			t.Fatalf("%s: the arguments were changed", before)
		}
		if answers[0] != answers[1] {
			t.Fatalf("%s: another answer", before)
		}
	}
	if both < 200 {
		t.Errorf("only %d", both)
	}
}
