package tests

import (
	"fmt"
	"slices"
	"testing"

	"loop.example/g00031/impl"
)

// holdTseitin holds clauses for a literal against what is told of them.
func holdTseitin(t *testing.T, a impl.Aig, lit int) (int, [][]int, int) {
	t.Helper()
	vars, clauses, code := impl.Tseitin(a, lit)
	wantVars, want, wantCode := tseitinTold(a, lit)
	if vars != wantVars || code != wantCode || clausesWritten(clauses) != clausesWritten(want) {
		t.Fatalf("%s: %d: code %d, want %d\n%d: %s, want\n%d: %s", aigWritten(a), lit, code, wantCode, vars, clausesWritten(clauses), wantVars, clausesWritten(want))
	}
	if code == impl.OK {
		wantsClauses(t, fmt.Sprint(aigWritten(a), ": ", lit), vars, clauses, true)
	}
	return vars, clauses, code
}

func TestTseitin(t *testing.T) {
	const shared = "i j k | | | 2,4 8,6 8,7 11,13 14,2 10,12"
	for _, c := range []struct {
		text string
		lit  int
		vars int
		want string
	}{
		// false, true, inputs and latches, and their opposites
		{"", 0, 1, "-1, 1"}, {"", 1, 1, "-1, -1"}, {"i j | c | l=0<2@0", 0, 4, "-1, 1"}, {"i j | c | l=0<2@0", 1, 4, "-1, -1"},
		{"i j | c | l=0<2@0", 2, 4, "-1, 2"}, {"i j | c | l=0<2@0", 3, 4, "-1, -2"}, {"i j | c | l=0<2@0", 4, 4, "-1, 3"}, {"i j | c | l=0<2@0", 5, 4, "-1, -3"},
		{"i j | c | l=0<2@0", 6, 4, "-1, 4"}, {"i j | c | l=1<7@0", 7, 4, "-1, -4"},
		// an and, its opposite, and all kinds of what it is of
		{"i j | | | 2,4", 6, 4, "-1, -4 2, -4 3, 4 -2 -3, 4"}, {"i j | | | 2,4", 7, 4, "-1, -4 2, -4 3, 4 -2 -3, -4"},
		{"i j | | | 4,2", 6, 4, "-1, -4 3, -4 2, 4 -3 -2, 4"}, {"i j | | | 3,4", 6, 4, "-1, -4 -2, -4 3, 4 2 -3, 4"}, {"i j | | | 5,3", 7, 4, "-1, -4 -3, -4 -2, 4 3 2, -4"},
		{"i | c | l=0<6@0 | 4,2", 6, 4, "-1, -4 3, -4 2, 4 -3 -2, 4"}, {"i | c | l=0<6@0 | 5,2", 7, 4, "-1, -4 -3, -4 2, 4 3 -2, -4"},
		{"i | | | 2,2", 4, 3, "-1, -3 2, -3 2, 3 -2 -2, 3"}, {"i | | | 2,3", 4, 3, "-1, -3 2, -3 -2, 3 -2 2, 3"}, {"i | | | 3,3", 5, 3, "-1, -3 -2, -3 -2, 3 2 2, -3"},
		{"i | | | 0,2", 4, 3, "-1, -3 1, -3 2, 3 -1 -2, 3"}, {"i | | | 2,1", 4, 3, "-1, -3 2, -3 -1, 3 -2 1, 3"}, {"| | | 0,1", 2, 2, "-1, -2 1, -2 -1, 2 -1 1, 2"}, {"| | | 1,1", 3, 2, "-1, -2 -1, -2 -1, 2 1 1, -2"},
		// those that are needed, each once, in order
		{shared, 2, 10, "-1, 2"}, {shared, 8, 10, "-1, -5 2, -5 3, 5 -2 -3, 5"}, {shared, 9, 10, "-1, -5 2, -5 3, 5 -2 -3, -5"},
		{shared, 10, 10, "-1, -5 2, -5 3, 5 -2 -3, -6 5, -6 4, 6 -5 -4, 6"}, {shared, 13, 10, "-1, -5 2, -5 3, 5 -2 -3, -7 5, -7 -4, 7 -5 4, -7"},
		{shared, 15, 10, "-1, -5 2, -5 3, 5 -2 -3, -6 5, -6 4, 6 -5 -4, -7 5, -7 -4, 7 -5 4, -8 -6, -8 -7, 8 6 7, -8"},
		{shared, 16, 10, "-1, -5 2, -5 3, 5 -2 -3, -6 5, -6 4, 6 -5 -4, -7 5, -7 -4, 7 -5 4, -8 -6, -8 -7, 8 6 7, -9 8, -9 2, 9 -8 -2, 9"},
		{shared, 18, 10, "-1, -5 2, -5 3, 5 -2 -3, -6 5, -6 4, 6 -5 -4, -7 5, -7 -4, 7 -5 4, -10 6, -10 7, 10 -6 -7, 10"},
		// the same and twice is two
		{"i j | | | 2,4 2,4 6,8", 10, 6, "-1, -4 2, -4 3, 4 -2 -3, -5 2, -5 3, 5 -2 -3, -6 4, -6 5, 6 -4 -5, 6"}, {"i j | | | 2,4 2,4 6,8", 8, 6, "-1, -5 2, -5 3, 5 -2 -3, 5"},
		// what a latch takes is not needed for what it is
		{theAig, 6, 13, "-1, 4"}, {theAig, 25, 13, "-1, -10 2, -10 4, 10 -2 -4, -11 5, -11 -10, 11 -5 10, -12 -5, -12 10, 12 5 -10, -13 -11, -13 -12, 13 11 12, -13"},
	} {
		vars, clauses, code := holdTseitin(t, aigRead(c.text), c.lit)
		if code != impl.OK || vars != c.vars || clausesWritten(clauses) != c.want {
			t.Errorf("%s: %d: code %d, %d: %s, want %d: %s", c.text, c.lit, code, vars, clausesWritten(clauses), c.vars, c.want)
		}
	}
}

func TestTseitinFaults(t *testing.T) {
	const low, high = -1 << 63, 1<<63 - 1
	wants := func(what string, a impl.Aig, lit, want int) {
		t.Helper()
		vars, clauses, code := holdTseitin(t, a, lit)
		if code != want || code != impl.OK && (vars != 0 || len(clauses) != 0) {
			t.Errorf("%s: %d: code %d, %d, %d clauses", what, lit, code, vars, len(clauses))
		}
	}
	for what, a := range notGraphs() {
		for _, lit := range []int{0, 1, 2, -1, high} {
			wants(what, a, lit, impl.ErrBad)
		}
	}
	great := wideAig(100, 100, impl.MaxAnds, 5, 5, 2)
	for _, lit := range []int{-1, -2, low, low + 1, high, 1 << 32, -1 << 32} {
		wants("the graph", theGraph(), lit, impl.ErrBad)
		wants("nothing", impl.Aig{}, lit, impl.ErrBad)
		wants("too many variables", great, lit, impl.ErrBad)
	}
	for lit, want := range map[int]int{0: impl.OK, 1: impl.OK, 2: impl.ErrBad, 3: impl.ErrBad} {
		wants("nothing", impl.Aig{}, lit, want)
	}
	for lit, want := range map[int]int{0: impl.OK, 24: impl.OK, 25: impl.OK, 26: impl.ErrBad, 27: impl.ErrBad} {
		wants("the graph", theGraph(), lit, want)
	}
	for lit, want := range map[int]int{0: impl.ErrMany, 2 * (8192 + 200): impl.ErrMany, 2*(8192+200) + 1: impl.ErrMany, 2*(8192+200) + 2: impl.ErrBad} {
		wants("too many variables", great, lit, want)
	}
}

// MaxVars is met and passed, by what is not needed too. (Clauses are never more than MaxClauses where variables are not more than MaxVars: at most 3 for each of 2047 ands, and 2.)
func TestTseitinMany(t *testing.T) {
	for _, c := range []struct {
		ins, latches, ands int
		lit                int
		clauses            int
	}{
		{2047, 0, 0, 0, 2}, {2047, 0, 0, 4094, 2}, {2048, 0, 0, 0, -1}, {2048, 0, 0, 4096, -1},
		{0, 2047, 0, 1, 2}, {0, 2048, 0, 1, -1}, {1000, 1047, 0, 3, 2}, {1000, 1048, 0, 3, -1},
		// all ands needed
		{0, 0, 2047, 4094, 6143}, {0, 0, 2047, 4095, 6143}, {0, 0, 2048, 4096, -1}, {0, 0, 2048, 4097, -1},
		{1, 0, 2046, 4094, 6140}, {1, 1, 2045, 4095, 6137}, {1, 0, 2047, 4096, -1}, {1, 1, 2046, 4097, -1}, {1024, 0, 1023, 4094, 3071}, {1024, 0, 1024, 4096, -1},
		// few of them needed
		{0, 0, 2047, 2, 5}, {0, 0, 2048, 2, -1}, {1000, 0, 1047, 2004, 8}, {1000, 0, 1048, 2004, -1}, {5, 0, 2042, 3, 2}, {5, 0, 2043, 3, -1},
		// as many clauses as there may be, and more
		{0, 0, 2730, 2 * 2730, -1}, {0, 0, 2731, 2 * 2731, -1}, {0, 0, 8192, 2 * 8192, -1}, {0, 0, 8192, 2, -1},
	} {
		a := wideAig(c.ins, c.latches, c.ands, 0, 0, min(c.latches, 1))
		vars, clauses, code := holdTseitin(t, a, c.lit)
		if c.clauses < 0 {
			if code != impl.ErrMany || vars != 0 || len(clauses) != 0 {
				t.Errorf("%v: code %d, %d, %d clauses", c, code, vars, len(clauses))
			}
			continue
		}
		if code != impl.OK || vars != 1+c.ins+c.latches+c.ands || len(clauses) != c.clauses {
			t.Errorf("%v: code %d, %d, %d clauses", c, code, vars, len(clauses))
		}
	}
}

// allHeld are all values of so many inputs and latches together, the first ones counting most.
func allHeld(count int) [][]string {
	var all [][]string
	for row := range 1 << count {
		var bits []string
		for i := range count {
			bits = append(bits, fmt.Sprint(row>>(count-1-i)%2))
		}
		all = append(all, bits)
	}
	return all
}

// canBe tells the least values of inputs and latches with which a literal is true.
func canBe(a impl.Aig, lit int) ([]string, bool) {
	for _, held := range allHeld(len(a.Ins) + len(a.Latches)) {
		v := litValue{a, held[:len(a.Ins)], held[len(a.Ins):], map[int]bool{}}
		if v.of(lit) {
			return held, true
		}
	}
	return nil, false
}

// holdLiteral: a literal can be true just where its clauses have a model, which then has the least values of inputs and latches and each needed and as it is with them; where it cannot, the trace is taken.
func holdLiteral(t *testing.T, a impl.Aig, lit int) bool {
	t.Helper()
	vars, clauses, code := holdTseitin(t, a, lit)
	if code != impl.OK {
		t.Fatalf("%s: %d: code %d", aigWritten(a), lit, code)
	}
	r, code := impl.Solve(vars, clauses, 4000)
	if code != impl.OK {
		t.Fatalf("%s: %d: Solve: code %d", aigWritten(a), lit, code)
	}
	held, can := canBe(a, lit)
	if (r.Kind == impl.Sat) != can {
		t.Fatalf("%s: %d: %v, but %s", aigWritten(a), lit, can, satShown(r))
	}
	if !can {
		if !impl.CheckTrace(vars, clauses, r.Trace) {
			t.Fatalf("%s: %d: %s is not taken", aigWritten(a), lit, clausesWritten(r.Trace))
		}
		return false
	}
	v := litValue{a, held[:len(a.Ins)], held[len(a.Ins):], map[int]bool{}}
	for variable := range vars {
		needed := variable < 1+len(held) || slices.ContainsFunc(clauses, func(clause []int) bool { return clause[0] == variable+1 && len(clause) == 3 })
		if got := r.Model[variable]; got != numberIf(needed && v.of(2*variable)) {
			t.Fatalf("%s: %d: with %v variable %d is %d", aigWritten(a), lit, held, variable, got)
		}
	}
	return true
}

// Clauses of drawn graphs, of each literal.
func TestTseitinOfGraphs(t *testing.T) {
	counts := map[string]int{}
	for seed := range uint64(120) {
		d := draughtsmanOf(seed + 41000)
		a := d.aig(d.below(5), d.below(3), d.below(14))
		if seed%2 == 0 {
			a = d.tangled(1+d.below(4), d.below(3), 4+d.below(16), 2+d.below(8), []int{0, 2, 3}[d.below(3)])
		}
		for lit := range 2 * (1 + len(a.Ins) + len(a.Latches) + len(a.Ands)) {
			can := holdLiteral(t, a, lit)
			isAnd := lit/2 > len(a.Ins)+len(a.Latches)
			counts["can be"] += numberIf(can && isAnd)
			counts["cannot be"] += numberIf(!can && isAnd)
		}
	}
	wantsOften(t, counts, 200, []string{"can be", "cannot be"})
}

// Each bit of each operation of netlists, as it is blasted and rewritten, and its opposite.
func TestTseitinOfOperations(t *testing.T) {
	done := 0
	for _, c := range everyCell(2, 2, 2) {
		n := oneClock([]int{2, 2, 2}, "in0 in1 in2")
		n.Cells = append(n.Cells, c)
		n.Outs = outsRead("y", "3")
		blasted, _ := impl.Blast(n)
		rewritten, _ := impl.Rewrite(blasted)
		for _, a := range []impl.Aig{blasted, rewritten} {
			for _, p := range a.Outs {
				holdLiteral(t, a, p.Lit)
				holdLiteral(t, a, litTurned(p.Lit))
				done++
			}
		}
	}
	if done < 100 {
		t.Errorf("only %d", done)
	}
}

// Sums and products do not hang on the order of their operands: that they are unlike cannot be, which is searched for and shown; with a bit turned it can.
func TestTseitinOfSums(t *testing.T) {
	for _, op := range []int{impl.OpAdd, impl.OpMul, impl.OpXor} {
		n := oneClock([]int{3, 3}, "in0 in1")
		n.Cells = append(n.Cells, cellOf(op, 3, 0, 1), cellOf(op, 3, 1, 0), cellOf(impl.OpNe, 1, 2, 3), cellOf(impl.OpNot, 3, 0), cellOf(op, 3, 1, 5), cellOf(impl.OpNe, 1, 2, 6))
		n.Outs = outsRead("y", "4 7")
		a, code := impl.Blast(n)
		if code != impl.OK {
			t.Fatalf("code %d", code)
		}
		if holdLiteral(t, a, a.Outs[0].Lit) || !holdLiteral(t, a, a.Outs[1].Lit) {
			t.Errorf("operation %d", op)
		}
	}
}

// Bent graphs and any literals have clauses, or a code.
func TestBentGraphsClauses(t *testing.T) {
	codes := map[int]int{}
	for seed := range uint64(2000) {
		d := draughtsmanOf(seed + 43000)
		a := d.aig(d.below(4), d.below(4), d.below(12))
		variables := 1 + len(a.Ins) + len(a.Latches) + len(a.Ands)
		if d.below(2) == 0 {
			d.bent(&a)
		}
		_, _, code := holdTseitin(t, a, d.below(2*variables+4)-2)
		codes[code]++
	}
	if codes[impl.OK] < 600 || codes[impl.ErrBad] < 600 {
		t.Errorf("codes %v", codes)
	}
}
