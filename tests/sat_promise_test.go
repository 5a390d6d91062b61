package tests

import (
	"fmt"
	"slices"
	"testing"

	"loop.example/g00031/impl"
)

// holdSolved: promise 14 of one list of clauses, by all values of its variables: a model makes all clauses true and none that is less does; where there is none, the trace is taken.
func holdSolved(t *testing.T, vars int, clauses [][]int) impl.SatRes {
	t.Helper()
	wantsClauses(t, clausesWritten(clauses), vars, clauses, true)
	r, code := holdWork(t, vars, clauses, 4000)
	if code != impl.OK {
		t.Fatalf("%d: %s: code %d", vars, clausesWritten(clauses), code)
	}
	least, found := leastModel(vars, clauses)
	switch {
	case found && (r.Kind != impl.Sat || !slices.Equal(r.Model, least) || len(r.Trace) != 0):
		t.Fatalf("%d: %s: %s, but the least is %s", vars, clausesWritten(clauses), satShown(r), modelWritten(least))
	case !found && (r.Kind != impl.Unsat || len(r.Model) != 0 || len(r.Trace) != r.Work):
		t.Fatalf("%d: %s: %s, but there is no model", vars, clausesWritten(clauses), satShown(r))
	case !found && !holdCheck(t, vars, clauses, r.Trace):
		t.Fatalf("%d: %s: %s is not taken", vars, clausesWritten(clauses), clausesWritten(r.Trace))
	}
	return r
}

// countSolved counts what kinds of searches there are.
func countSolved(counts map[string]int, clauses [][]int, r impl.SatRes) {
	kind := []string{"", "model", "trace"}[r.Kind]
	counts[kind]++
	counts[kind+" at once"] += numberIf(r.Work == 1)
	counts[kind+" by many searches"] += numberIf(r.Work > 10)
	counts["model behind what failed"] += numberIf(r.Kind == impl.Sat && r.Work > len(r.Model)+1)
	counts["model with less than a search for each"] += numberIf(r.Kind == impl.Sat && len(r.Model) > 4 && r.Work < len(r.Model))
	for _, clause := range clauses {
		set := setOf(clause)
		counts["a literal twice"] += numberIf(len(set) < len(clause))
		counts["an opposite"] += numberIf(slices.ContainsFunc(set, func(lit int) bool { return slices.Contains(set, -lit) }))
		counts["an empty clause"] += numberIf(len(clause) == 0)
	}
}

// Promise 14 of drawn clauses of up to 12 variables.
func TestSolvedAsDrawn(t *testing.T) {
	counts := map[string]int{}
	for seed := range uint64(2400) {
		l := logicianOf(seed + 100)
		vars, clauses := l.any([]int{4, 8, 12}[seed%3])
		countSolved(counts, clauses, holdSolved(t, vars, clauses))
	}
	wantsOften(t, counts, 60, []string{"model", "trace", "model at once", "trace at once", "trace by many searches", "model behind what failed", "model with less than a search for each", "a literal twice", "an opposite"})
	wantsOften(t, counts, 15, []string{"model by many searches", "an empty clause"})
}

// Promise 14 of all lists of clauses of two variables with up to two literals each.
func TestSolvedOfTwo(t *testing.T) {
	var each [][]int
	for _, text := range []string{".", "1", "-1", "2", "-2", "1 2", "1 -2", "-1 2", "-1 -2", "1 -1", "2 2"} {
		each = append(each, clausesRead(text)...)
	}
	for set := range 1 << len(each) {
		var clauses [][]int
		for i, clause := range each {
			if set>>i%2 == 1 {
				clauses = append(clauses, clause)
			}
		}
		holdSolved(t, 2, clauses)
	}
}

// A model does not hang on the order of the clauses, nor on that of their literals; a trace neither.
func TestSolvedInAnyOrder(t *testing.T) {
	for seed := range uint64(300) {
		l := logicianOf(seed + 5000)
		vars, clauses := l.any(30)
		r, code := impl.Solve(vars, clauses, 4000)
		for range 3 {
			other := mixed(&l.choices, clausesCopied(clauses))
			for _, clause := range other {
				mixed(&l.choices, clause)
			}
			if again, otherCode := impl.Solve(vars, other, 4000); otherCode != code || satShown(again) != satShown(r) {
				t.Fatalf("%d: %s: code %d, %s, but\n%s: code %d, %s", vars, clausesWritten(clauses), code, satShown(r), clausesWritten(other), otherCode, satShown(again))
			}
		}
	}
}

// More variables than can be gone through: a model makes all clauses true, and each 1 in it is needed by those ahead of it; a trace is taken.
func TestSolvedOfMany(t *testing.T) {
	counts := map[string]int{}
	for seed := range uint64(150) {
		l := logicianOf(seed + 7000)
		vars := 20 + l.below(40)
		clauses := l.clauses(vars, vars*(36+l.below(16))/10, 3)
		if seed%3 == 0 {
			clauses = l.chained(vars)
		}
		r, code := impl.Solve(vars, clauses, 4000)
		switch {
		case code == impl.ErrWork:
			counts["used up"]++
		case r.Kind == impl.Unsat:
			counts["trace"]++
			if !impl.CheckTrace(vars, clauses, r.Trace) {
				t.Fatalf("%d: %s: %s is not taken", vars, clausesWritten(clauses), clausesWritten(r.Trace))
			}
		default:
			counts["model"]++
			holdLeast(t, vars, clauses, r.Model)
		}
	}
	wantsOften(t, counts, 20, []string{"model", "trace"})
}

// holdLeast: all clauses are true; and with all values ahead of a 1 and a 0 in its place there is no model.
func holdLeast(t *testing.T, vars int, clauses [][]int, model []int) {
	t.Helper()
	for _, clause := range clauses {
		if !slices.ContainsFunc(clause, func(lit int) bool { return model[max(lit, -lit)-1] == numberIf(lit > 0) }) {
			t.Fatalf("%d: %s: %s leaves out %v", vars, clausesWritten(clauses), modelWritten(model), clause)
		}
	}
	fixed := clausesCopied(clauses)
	for v, value := range model {
		if value == 1 {
			lesser := append(slices.Clone(fixed), []int{-v - 1})
			if r, code := impl.Solve(vars, lesser, 4000); code != impl.OK || r.Kind != impl.Unsat || !impl.CheckTrace(vars, lesser, r.Trace) {
				t.Fatalf("%d: %s: %s, but variable %d: code %d, %s", vars, clausesWritten(clauses), modelWritten(model), v+1, code, satShown(r))
			}
		}
		fixed = append(fixed, []int{(v + 1) * (2*value - 1)})
	}
}

// Pigeons that have room, and such that have none.
func TestPigeons(t *testing.T) {
	for holes := 1; holes <= 5; holes++ {
		vars, clauses := pigeons(holes+1, holes)
		r, code := holdSolve(t, vars, clauses, 4000)
		if code != impl.OK || r.Kind != impl.Unsat || !holdCheck(t, vars, clauses, r.Trace) {
			t.Errorf("%d pigeons: code %d, %s", holes+1, code, satShown(r))
		}
		for left := range clauses {
			// each clause is needed
			if holdCheck(t, vars, slices.Delete(clausesCopied(clauses), left, left+1), r.Trace) {
				t.Errorf("%d pigeons, without %v: the trace is taken", holes+1, clauses[left])
			}
			if holes > 3 && left > 6 {
				break
			}
		}
		vars, clauses = pigeons(holes, holes)
		if r, code := holdSolve(t, vars, clauses, 4000); code != impl.OK || r.Kind != impl.Sat {
			t.Errorf("%d pigeons in as many holes: code %d, %s", holes, code, satShown(r))
		}
	}
}

// Promise 14: where a trace is taken, spoilt or not, no values make all clauses true.
func TestSpoiltTraces(t *testing.T) {
	counts := map[string]int{}
	for seed := range uint64(6000) {
		l := logicianOf(seed + 20000)
		vars, clauses := l.any([]int{3, 6, 10}[seed%3])
		r, _ := impl.Solve(vars, clauses, 4000)
		trace := r.Trace
		if r.Kind == impl.Sat && vars > 0 {
			trace = l.trace(vars)
		}
		for range 1 + l.below(3) {
			if l.below(4) == 0 {
				clauses = l.spoilt(vars, clauses)
			} else {
				trace = l.spoilt(vars, trace)
			}
		}
		taken := holdCheck(t, vars, clauses, trace)
		_, found := leastModel(vars, clauses)
		if taken && found {
			t.Fatalf("%d: %s: %s is taken", vars, clausesWritten(clauses), clausesWritten(trace))
		}
		counts["taken"] += numberIf(taken && len(trace) > 1)
		counts["not taken, with a model"] += numberIf(found)
		counts["not taken, without a model"] += numberIf(!taken && !found)
		counts["not taken but for a clause"] += numberIf(!taken && !found && len(trace) > 0 && len(trace[len(trace)-1]) == 0 && clausesTold(vars, trace, vars))
	}
	wantsOften(t, counts, 400, []string{"taken", "not taken, with a model", "not taken, without a model"})
	wantsOften(t, counts, 100, []string{"not taken but for a clause"})
}

// Drawn traces of clauses that have no model, most of which show nothing.
func TestDrawnTraces(t *testing.T) {
	counts := map[bool]int{}
	for seed := range uint64(6000) {
		l := logicianOf(seed + 40000)
		vars := 2 + l.below(4)
		clauses := l.clauses(vars, vars*(1+l.below(5)), 2)
		if seed%3 == 0 {
			clauses = l.spoilt(vars, allRows(min(vars, 3)))
		}
		trace := l.trace(vars)
		taken := holdCheck(t, vars, clauses, trace)
		if _, found := leastModel(vars, clauses); taken && found {
			t.Fatalf("%d: %s: %s is taken", vars, clausesWritten(clauses), clausesWritten(trace))
		}
		counts[taken && len(trace) > 1]++
	}
	if counts[true] < 400 || counts[false] < 1000 {
		t.Errorf("%v", counts)
	}
}

// Any numbers at all have an answer, or a code.
func TestBentClauses(t *testing.T) {
	const low, high = -1 << 63, 1<<63 - 1
	right, wrong := 0, 0
	for seed := range uint64(4000) {
		l := logicianOf(seed + 60000)
		vars, clauses := l.any(8)
		r, _ := impl.Solve(vars, clauses, 4000)
		trace := clausesCopied(r.Trace)
		switch l.below(4) {
		case 0:
			vars += []int{1, -1, 2048, -2048, low, high}[l.below(6)]
		case 1:
			if all := clausesCopied(trace); len(all) > 0 {
				at := l.below(len(all))
				all[at] = append(all[at], []int{0, vars + 1, -vars - 1, low, high}[l.below(5)])
				trace = all
			}
		default:
			clauses = append(clausesCopied(clauses), append(l.clause(max(vars, 1), l.below(3)), []int{0, vars, -vars, vars + 1, -vars - 1, low, low + 1, high}[l.below(8)]))
			mixed(&l.choices, clauses)
		}
		fits := clausesTold(vars, clauses, 64)
		wantsClauses(t, fmt.Sprint(vars, ": ", clausesWritten(clauses)), vars, clauses, fits)
		holdSolve(t, vars, clauses, []int{1, 2, 5, 4000, 0, 4001, low, high}[l.below(8)])
		holdCheck(t, vars, clauses, trace)
		right += numberIf(fits)
		wrong += numberIf(!fits)
	}
	if right < 1000 || wrong < 1000 {
		t.Errorf("%d right, %d wrong", right, wrong)
	}
}

func clausesApart(t *testing.T, clauses [][]int, seen map[any]bool) {
	t.Helper()
	listApart(t, clauses, seen)
	for _, clause := range clauses {
		listApart(t, clause, seen)
	}
}

// Promise 1: no argument is written into, not behind its end either; answers are new memory, and no two lists of one share any; nothing is kept from call to call.
func TestSatKeepsArguments(t *testing.T) {
	counts := map[int]int{}
	for seed := range uint64(400) {
		l, d := logicianOf(seed+80000), draughtsmanOf(seed+80000)
		vars, drawn := l.any(10)
		clauses, a := roomyClauses(drawn), roomyAig(d.any())
		found, _ := impl.Solve(vars, drawn, 4000)
		trace := roomyClauses(found.Trace)
		lit := d.below(2 * (1 + len(a.Ins) + len(a.Latches) + len(a.Ands)))
		told := func() string { return wholeClauses(clauses) + wholeClauses(trace) + wholeAig(a) }
		before := told()
		seen := map[any]bool{}
		clausesApart(t, clauses, seen)
		clausesApart(t, trace, seen)
		aigApart(t, a, seen)
		var answers []string
		for range 2 {
			impl.ClausesOK(vars, clauses)
			r, code := impl.Solve(vars, clauses, 4000)
			listApart(t, r.Model, seen)
			clausesApart(t, r.Trace, seen)
			taken := impl.CheckTrace(vars, clauses, trace)
			count, made, madeCode := impl.Tseitin(a, lit)
			clausesApart(t, made, seen)
			answers = append(answers, fmt.Sprint(satShown(r), code, taken, count, clausesWritten(made), madeCode))
			counts[r.Kind]++
		}
		if told() != before {
			t.Fatalf("%s: the arguments were changed", before)
		}
		if answers[0] != answers[1] {
			t.Fatalf("%s: another answer", before)
		}
	}
	if counts[impl.Sat] < 100 || counts[impl.Unsat] < 100 {
		t.Errorf("%v", counts)
	}
}
