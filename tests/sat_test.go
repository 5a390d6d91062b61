package tests

import (
	"fmt"
	"slices"
	"testing"

	"loop.example/g00031/impl"
)

func TestSatConstants(t *testing.T) {
	got := []int{impl.MaxVars, impl.MaxClauses, impl.MaxLits, impl.MaxWork, impl.Sat, impl.Unsat}
	if want := []int{2048, 8192, 64, 4000, 1, 2}; !slices.Equal(got, want) {
		t.Errorf("%v, want %v", got, want)
	}
}

// wantsClauses holds ClausesOK against what is told; where these are no clauses each call says so, ahead of all else.
func wantsClauses(t *testing.T, what string, vars int, clauses [][]int, want bool) {
	t.Helper()
	if got := impl.ClausesOK(vars, clauses); got != want || clausesTold(vars, clauses, 64) != want {
		t.Errorf("%s: %v, told %v", what, got, clausesTold(vars, clauses, 64))
	}
	for _, work := range []int{1, 4000, 0, 4001} {
		r, code := impl.Solve(vars, clauses, work)
		if (code == impl.ErrBad) == want || code != impl.OK && satShown(r) != satShown(impl.SatRes{}) {
			t.Errorf("%s: Solve with work %d: code %d, %s", what, work, code, satShown(r))
		}
	}
	if impl.CheckTrace(vars, clauses, [][]int{{}}) && !want {
		t.Errorf("%s: a trace of it is taken", what)
	}
}

// sameClauses has so many of one.
func sameClauses(count int, clause ...int) [][]int {
	var all [][]int
	for range count {
		all = append(all, slices.Clone(clause))
	}
	return all
}

// firstVars are the variables from 1 to count.
func firstVars(count int) []int {
	var list []int
	for v := range count {
		list = append(list, v+1)
	}
	return list
}

func TestClausesOK(t *testing.T) {
	const low, high = -1 << 63, 1<<63 - 1
	for vars, want := range map[int]bool{0: true, 1: true, 2047: true, 2048: true, 2049: false, -1: false, -2048: false, 1 << 32: false, low: false, low + 1: false, high: false} {
		wantsClauses(t, fmt.Sprint(vars, " variables"), vars, nil, want)
		wantsClauses(t, fmt.Sprint(vars, " variables and an empty clause"), vars, [][]int{{}}, want)
		wantsClauses(t, fmt.Sprint(vars, " variables and 1"), vars, [][]int{{1}}, want && vars > 0)
	}
	for _, vars := range []int{0, 1, 2, 3, 64, 2047, 2048} {
		for lit, want := range map[int]bool{1: vars > 0, -1: vars > 0, vars: vars > 0, -vars: vars > 0, 0: false, vars + 1: false, -vars - 1: false, 1 << 32: false, -1 << 32: false, low: false, low + 1: false, high: false} {
			what := fmt.Sprint(vars, " variables: ", lit)
			wantsClauses(t, what, vars, [][]int{{lit}}, want)
			wantsClauses(t, what+" behind others", vars, [][]int{{}, slices.Repeat([]int{1}, min(vars, 3)), append(firstVars(min(vars, 50)), lit)}, want)
			wantsClauses(t, what+" ahead of others", vars, [][]int{append([]int{lit}, firstVars(min(vars, 50))...), {}}, want)
		}
	}
	for text, want := range map[string]bool{
		".": true, ".,.,.": true, "1 1": true, "1 -1": true, "-2 2 -2 2": true, "1 2 3, 1 2 3": true, "1 2, ., 3 3 3": true,
		"1 0": false, "0": false, ".,0": false, "1 2 4": false, "-4 1": false, "1,2,3,4": false,
	} {
		wantsClauses(t, text, 3, clausesRead(text), want)
	}
}

func TestClausesOKLimits(t *testing.T) {
	for count, want := range map[int]bool{4096: true, 4097: true, 8191: true, 8192: true, 8193: false, 20000: false} {
		wantsClauses(t, fmt.Sprint(count, " clauses"), 1, sameClauses(count, 1), want)
		wantsClauses(t, fmt.Sprint(count, " empty clauses"), 0, make([][]int, count), want)
	}
	for count, want := range map[int]bool{63: true, 64: true, 65: false, 2048: false, 1 << 20: false} {
		what := fmt.Sprint(count, " literals")
		wantsClauses(t, what+" of 1", 1, [][]int{slices.Repeat([]int{1}, count)}, want)
		wantsClauses(t, what+" behind others", 2, [][]int{{1}, {}, slices.Repeat([]int{-2}, count)}, want)
		if count <= 2048 {
			wantsClauses(t, what+", all of them others", 2048, [][]int{firstVars(count)}, want)
		}
	}
	// a list that is longer than other lists may be, and all limits at one time
	wantsClauses(t, "very many", 2048, sameClauses(8192, firstVars(64)...), true)
}

// holdSolve holds an answer against what is told of it.
func holdSolve(t *testing.T, vars int, clauses [][]int, work int) (impl.SatRes, int) {
	t.Helper()
	r, code := impl.Solve(vars, clauses, work)
	want, wantCode := solveTold(vars, clauses, work)
	if code != wantCode || satShown(r) != satShown(want) {
		t.Fatalf("%d: %s; work %d: code %d, want %d\n%s, want\n%s", vars, clausesWritten(clauses), work, code, wantCode, satShown(r), satShown(want))
	}
	return r, code
}

// holdWork holds that a search is made with just as much work as it needs, and with none less.
func holdWork(t *testing.T, vars int, clauses [][]int, most int) (impl.SatRes, int) {
	t.Helper()
	r, code := holdSolve(t, vars, clauses, most)
	if code != impl.OK {
		return r, code
	}
	for _, work := range []int{r.Work, min(r.Work+1, 4000)} {
		if again, code := impl.Solve(vars, clauses, work); code != impl.OK || satShown(again) != satShown(r) {
			t.Fatalf("%d: %s; work %d: code %d, %s", vars, clausesWritten(clauses), work, code, satShown(again))
		}
	}
	for _, work := range []int{r.Work - 1, r.Work / 2, 1} {
		if work < 1 || work == r.Work {
			continue
		}
		if less, code := impl.Solve(vars, clauses, work); code != impl.ErrWork || satShown(less) != satShown(impl.SatRes{}) {
			t.Fatalf("%d: %s; work %d: code %d, %s", vars, clausesWritten(clauses), work, code, satShown(less))
		}
	}
	return r, code
}

func TestSolveModels(t *testing.T) {
	for _, c := range []struct {
		vars    int
		clauses string
		model   string
		work    int
	}{
		{0, "", "", 1},
		{1, "", "0", 2}, {3, "", "000", 4},
		{1, "1", "1", 1}, {1, "-1", "0", 1}, {2, "2", "01", 2}, {2, "-2", "00", 2}, {3, "1, -2, 3", "101", 1},
		// a literal that stands twice counts once; one beside its opposite says nothing
		{1, "1 1", "1", 1}, {1, "-1 -1 -1", "0", 1}, {2, "1 1, -1 2 2 -1", "11", 1}, {2, "1 2 1 2", "01", 2},
		{1, "1 -1", "0", 2}, {2, "1 2 -1, 2 1 -2", "00", 3}, {2, "2 2 -2 -2, 1", "10", 2}, {3, "1 1 2 2, 3 3", "011", 2},
		// what follows from a decision, and chains of that
		{2, "1 2", "01", 2}, {2, "2 1", "01", 2}, {2, "-1 -2", "00", 3}, {2, "1 -2", "00", 2},
		{3, "1, -1 2, -2 3", "111", 1}, {3, "-2 3, -1 2, 1", "111", 1}, {4, "1 2, -2 3, -3 4", "0111", 2}, {4, "-3 4, -2 3, 2 1", "0111", 2},
		{4, "1 2, -2 -3, 3 1 -4", "0100", 2}, {5, "1 2 3 4 5", "00001", 5}, {5, "5 4 3 2 1", "00001", 5}, {5, "1 2 3 4 5, -5", "00010", 4},
		{3, "1 2, 1 3, -2 -3 1", "100", 5}, {4, "1 2, 1 3, -2 -3 4", "0111", 2},
		// a clause that is true already does not count, whatever its others are
		{3, "1, 1 2, 1 -2 3", "100", 3}, {3, "-1, -1 2, 3 -1", "000", 3},
		// with 0 it fails, with 1 not; what failed is not put to an answer's trace
		{2, "1 2, 1 -2", "10", 4}, {3, "1 2, 1 -2, -1 3", "101", 4}, {2, "1 2, 1 -2, -1 2", "11", 3}, {2, "1 2, -2", "10", 1},
		{3, "1 2 3, 1 2 -3, 1 -2 3, 1 -2 -3", "100", 7}, {3, "1 2 3, 1 2 -3", "010", 5}, {4, "2 3 4, 2 3 -4, 2 -3 4, 2 -3 -4", "0100", 8},
		// the least one, the lowest variables counting most
		{3, "1 2, -1 3, -2 3", "011", 2}, {3, "1 2 3, -2 -3, -1 -3", "001", 3}, {3, "1 3, 2 3, -3 1", "101", 4}, {3, "1 3, 2 3, -3 1, -1 -3", "110", 3}, {4, "1 2, 3 4, -2 -4", "0110", 2},
	} {
		what := fmt.Sprint(c.vars, ": ", c.clauses)
		r, code := holdWork(t, c.vars, clausesRead(c.clauses), 100)
		if code != impl.OK || r.Kind != impl.Sat || modelWritten(r.Model) != c.model || r.Work != c.work || len(r.Trace) != 0 {
			t.Errorf("%s: code %d, %s, want %s, work %d", what, code, satShown(r), c.model, c.work)
		}
	}
}

func TestSolveTraces(t *testing.T) {
	for _, c := range []struct {
		vars    int
		clauses string
		trace   string
		work    int
	}{
		// without a decision
		{0, ".", ".", 1}, {3, ".", ".", 1}, {3, "1 2, ., 2 3", ".", 1}, {0, ".,.,.", ".", 1}, {1, "1, -1", ".", 1}, {2, "2 2, -2 -2 -2", ".", 1},
		{3, "1, -1 2, -2 3, -3", ".", 1}, {3, "-3, -2 3, -1 2, 1", ".", 1}, {3, "1, 2, 3, -1 -2 -3", ".", 1}, {4, "4, -4 3, -4 2, -2 -3", ".", 1},
		{2, "1, -1 2, -1 -2", ".", 1}, {2, ".,1,2", ".", 1}, {2, "1,2,.", ".", 1},
		// both values of one
		{2, "1 2, 1 -2, -1 2, -1 -2", "1, -1, .", 3}, {2, "-1 -2, -1 2, 1 -2, 1 2", "1, -1, .", 3}, {3, "1 2, 1 -2, -1 3, -1 -3", "1, -1, .", 3},
		{3, "2 3, 2 -3, -2 3, -2 -3", "1 2, 1 -2, 1, -1 2, -1 -2, -1, .", 7},
		{3, "-1 2 2, -1 -2 -2, 1 1 3, 3 -3, -3 1 1", "1, -1, .", 3},
		// a variable that follows is not decided
		{4, "1 2, 3 4, 3 -4, -3 4, -3 -4", "1 3, 1 -3, 1, -1 2 3, -1 2 -3, -1 2, -1 -2 3, -1 -2 -3, -1 -2, -1, .", 11},
		{4, "2, 1 4, 1 -4, -1 3 4, -1 3 -4, -3 4, -3 -4", "1, -1 3, -1 -3, -1, .", 5},
		{4, "-1 2, 3 4, 3 -4, -3 4, -3 -4, 1", "3, -3, .", 3},
		{5, "-1, 1 2 3, -2 4 5, -2 4 -5, -4 5, -4 -5, -3 4 5, -3 4 -5", "2 4, 2 -4, 2, -2 3 4, -2 3 -4, -2 3, -2 -3 4, -2 -3 -4, -2 -3, -2, .", 11},
		// one side goes deeper than the other
		{3, "1, 2 3, 2 -3, -2 3, -2 -3", "2, -2, .", 3},
		{4, "1 2 3, 1 2 -3, 1 -2, -1 3 4, -1 3 -4, -1 -3 4, -1 -3 -4", "1, -1 2 3, -1 2 -3, -1 2, -1 -2 3, -1 -2 -3, -1 -2, -1, .", 9},
		{3, "1 2 3, 1 2 -3, 1 -2 3, 1 -2 -3, -1 2, -1 -2", "1 2, 1 -2, 1, -1, .", 5},
		{3, "1 2, 1 -2, -1 2 3, -1 2 -3, -1 -2 3, -1 -2 -3", "1, -1 2, -1 -2, -1, .", 5},
	} {
		what := fmt.Sprint(c.vars, ": ", c.clauses)
		clauses := clausesRead(c.clauses)
		r, code := holdWork(t, c.vars, clauses, 100)
		if code != impl.OK || r.Kind != impl.Unsat || clausesWritten(r.Trace) != c.trace || r.Work != c.work || len(r.Model) != 0 {
			t.Errorf("%s: code %d, %s, want %s, work %d", what, code, satShown(r), c.trace, c.work)
		}
		if !impl.CheckTrace(c.vars, clauses, r.Trace) {
			t.Errorf("%s: %s is not taken", what, clausesWritten(r.Trace))
		}
	}
	// of three variables all rows are left out
	r, _ := holdWork(t, 3, allRows(3), 4000)
	if want := "1 2, 1 -2, 1, -1 2, -1 -2, -1, ."; clausesWritten(r.Trace) != want || r.Work != 7 {
		t.Errorf("%s, want %s", satShown(r), want)
	}
}

func TestSolveRange(t *testing.T) {
	const low, high = -1 << 63, 1<<63 - 1
	unsat, sat := clausesRead("1 2, 1 -2, -1 2, -1 -2"), clausesRead("1 2, -1 -2")
	for work, want := range map[int]int{
		0: impl.ErrRange, -1: impl.ErrRange, -4000: impl.ErrRange, 4001: impl.ErrRange, 4002: impl.ErrRange, 1 << 32: impl.ErrRange, low: impl.ErrRange, low + 1: impl.ErrRange, high: impl.ErrRange,
		1: impl.ErrWork, 2: impl.ErrWork, 3: impl.OK, 4: impl.OK, 3999: impl.OK, 4000: impl.OK,
	} {
		if r, code := holdSolve(t, 2, unsat, work); code != want {
			t.Errorf("work %d: code %d, %s", work, code, satShown(r))
		}
		if work == 2 {
			want = impl.OK
		}
		if r, code := holdSolve(t, 2, sat, work); code != want {
			t.Errorf("work %d: code %d, %s", work, code, satShown(r))
		}
		for _, wrong := range []string{"0", "1 2 3", "-3"} {
			if r, code := holdSolve(t, 2, clausesRead(wrong), work); code != impl.ErrBad {
				t.Errorf("%s: work %d: code %d, %s", wrong, work, code, satShown(r))
			}
		}
	}
	for _, vars := range []int{-1, 2049} {
		if _, code := impl.Solve(vars, nil, 0); code != impl.ErrBad {
			t.Errorf("%d variables: code %d", vars, code)
		}
	}
	// what needs no second search is done with work 1
	for _, text := range []string{".", "1, -1", "1, 2", "1, -1 2"} {
		if r, code := holdSolve(t, 2, clausesRead(text), 1); code != impl.OK || r.Work != 1 {
			t.Errorf("%s: code %d, %s", text, code, satShown(r))
		}
	}
}

// All variables, all clauses and all literals that there may be, and all work.
func TestSolveLimits(t *testing.T) {
	wants := func(what string, vars int, clauses [][]int, work, want int) impl.SatRes {
		t.Helper()
		r, code := impl.Solve(vars, clauses, work)
		if code != want || code != impl.OK && satShown(r) != satShown(impl.SatRes{}) || code == impl.OK && r.Work > work {
			t.Errorf("%s: work %d: code %d, %d searches", what, work, code, r.Work)
		}
		return r
	}
	r := wants("no clauses", 2048, nil, 2049, impl.OK)
	if r.Kind != impl.Sat || !slices.Equal(r.Model, make([]int, 2048)) || r.Work != 2049 {
		t.Errorf("no clauses: %s", satShown(r))
	}
	wants("no clauses", 2048, nil, 2048, impl.ErrWork)
	// steps of which each one takes two searches
	last, clauses := ladder(1999, 0)
	if r = wants("a ladder", last, clauses, 4000, impl.OK); r.Kind != impl.Sat || r.Work != 4000 || !slices.Equal(r.Model, append(slices.Repeat([]int{1}, 1999), 0)) || len(r.Trace) != 0 {
		t.Errorf("a ladder: %s", satShown(r))
	}
	wants("a ladder", last, clauses, 3999, impl.ErrWork)
	last, clauses = ladder(1999, 1)
	wants("a ladder and a variable", last, clauses, 4000, impl.ErrWork)
	last, clauses = brokenLadder(1998)
	r = wants("a broken ladder", last, clauses, 4000, impl.OK)
	if r.Kind != impl.Unsat || r.Work != 3999 || len(r.Model) != 0 || !slices.EqualFunc(r.Trace, brokenTrace(1998), slices.Equal[[]int]) {
		t.Errorf("a broken ladder: %d searches, %d of trace", r.Work, len(r.Trace))
	}
	if !impl.CheckTrace(last, clauses, r.Trace) || impl.CheckTrace(last, clauses[2:], r.Trace) || impl.CheckTrace(last, clauses[:len(clauses)-1], r.Trace) {
		t.Error("a broken ladder's trace")
	}
	wants("a broken ladder", last, clauses, 3998, impl.ErrWork)
	last, clauses = brokenLadder(1999)
	wants("a longer broken ladder", last, clauses, 4000, impl.ErrWork)
	last, clauses = brokenLadder(9)
	if r, _ := holdWork(t, last, clauses, 4000); clausesWritten(r.Trace) != clausesWritten(brokenTrace(9)) {
		t.Errorf("a short broken ladder: %s", satShown(r))
	}
	// a chain of all variables, of as many clauses as can be, of as many literals as can be
	var chain [][]int
	for v := range 2047 {
		chain = append(chain, append(slices.Repeat([]int{-v - 1}, 63), v+2))
	}
	chain = append(chain, sameClauses(8192-2048, firstVars(64)...)...)
	slices.Reverse(chain)
	if r = wants("a chain", 2048, append(chain, []int{1}), 1, impl.OK); r.Kind != impl.Sat || !slices.Equal(r.Model, slices.Repeat([]int{1}, 2048)) {
		t.Errorf("a chain: %s", satShown(r))
	}
	chain[0] = []int{-2048, -2048, -1}
	if r = wants("a chain to its opposite", 2048, append(chain, []int{1}), 1, impl.OK); r.Kind != impl.Unsat || clausesWritten(r.Trace) != "." {
		t.Errorf("a chain to its opposite: %s", satShown(r))
	}
}
