package tests

import (
	"fmt"
	"slices"
	"testing"

	"loop.example/g00031/impl"
)

// holdCheck holds CheckTrace against what is told of it.
func holdCheck(t *testing.T, vars int, clauses, trace [][]int) bool {
	t.Helper()
	got := impl.CheckTrace(vars, clauses, trace)
	if want := checkTold(vars, clauses, trace); got != want {
		t.Fatalf("%d: %s; trace %s: %v", vars, clausesWritten(clauses), clausesWritten(trace), got)
	}
	return got
}

const (
	allPairs   = "1 2, 1 -2, -1 2, -1 -2"
	allTriples = "1 2 3, 1 2 -3, 1 -2 3, 1 -2 -3, -1 2 3, -1 2 -3, -1 -2 3, -1 -2 -3"
)

func TestCheckTrace(t *testing.T) {
	for _, c := range []struct {
		vars    int
		clauses string
		trace   string
		want    bool
	}{
		// an empty trace shows nothing, not of an empty clause either
		{2, allPairs, "", false}, {0, ".", "", false}, {1, "1, -1", "", false}, {0, "", "", false},
		{0, ".", ".", true}, {1, "1, -1", ".", true}, {3, "1, -1 2, -2 3, -3", ".", true}, {0, ".", ".,.,.", true}, {0, "", ".", false}, {3, "1 2 3", ".", false},
		// the last clause is the empty one
		{2, allPairs, "1", false}, {2, allPairs, "1, -1", false}, {2, allPairs, "., 1", false}, {2, "1, -1", "., 1", false}, {2, "1, -1", "., 1, .", true}, {2, "., 1", "1", false},
		{2, allPairs, "1, .", true}, {2, allPairs, "-1, .", true}, {2, allPairs, "2, .", true}, {2, allPairs, "-2, .", true}, {2, allPairs, "1, -1, .", true}, {2, allPairs, ".", false},
		{2, allPairs, "1, ., -1, 2, .", true}, {2, allPairs, "., 1, .", false},
		// what does not follow
		{2, "1 2", "1, .", false}, {2, "1 2, 1 -2, -1 2", "1, -1, .", false}, {2, "1 2, 1 -2, -1 2", "1, .", false}, {3, allPairs, "3, .", false}, {3, allPairs, "-3, 1, .", false}, {3, allPairs, "1, 3, .", true},
		{3, allTriples, "1, .", false}, {3, allTriples, "1 2, .", false}, {3, allTriples, ".", false},
		// what follows only by a clause ahead of it
		{3, allTriples, "1 2, 1, -1 2, .", true}, {3, allTriples, "1, 1 2, -1 2, .", false}, {3, allTriples, "1 2, 1, .", false}, {3, allTriples, "1 2, -1 2, .", false}, {3, allTriples, "1 2, -1 2, 2, .", false}, {3, allTriples, "1 2, -1 2, 2, 1, .", true},
		{3, allTriples, "2 3, 2, -2 3, .", true}, {3, allTriples, "2, 2 3, -2 3, .", false}, {3, allTriples, "1 2, 1 -2, 1, -1 2, -1 -2, -1, .", true}, {3, allTriples, "-1 -2, -1 2, -1, 1 -2, 1 2, .", true},
		{3, allTriples, "1 2, 1 -2, -1 2, -1 -2, .", false}, {3, allTriples, "1 2, 1 -2, -1 2, 1, .", true},
		// by several ahead, one far ahead
		{4, "1 2 3 4, 1 2 3 -4, 1 2 -3, 1 -2, -1 2 3, -1 2 -3, -1 -2 4, -1 -2 -4", "1 2 3, 1 2, 1, -1 2, .", true},
		{4, "1 2 3 4, 1 2 3 -4, 1 2 -3, 1 -2, -1 2 3, -1 2 -3, -1 -2 4, -1 -2 -4", "-1 2, 1 2 3, 1, .", true},
		{4, "1 2 3 4, 1 2 3 -4, 1 2 -3, 1 -2, -1 2 3, -1 2 -3, -1 -2 4, -1 -2 -4", "1, .", false},
		// literals and clauses again, those that have more than they need
		{2, allPairs, "1 1, .", true}, {2, allPairs, "1 1, -1 -1, .", true}, {2, allPairs, "1, 1, 1, .", true}, {3, allPairs, "1 3, 1, .", true}, {3, allPairs, "1 2 3, 1, .", true}, {3, allPairs, "1 3, .", false},
		{3, allTriples, "1 2 3, 3 2 1, 1 2, 1, -1 2, .", true}, {3, allTriples, "1 1 2, 1 2 2, 2 2 1, 1 1, -1 -1 2, .", true},
		{2, "1 1 2 2, 1 1 -2, -2 -1 -2, 2 -1 2", "1 1, .", true},
		// a literal and its opposite
		{2, allPairs, "1 -1, 1, .", true}, {2, allPairs, "1, -2 2, .", true}, {2, "1 2", "1 -1, .", false}, {2, "1 2", "2 -2, -1 1, .", false}, {3, "", "2 -2, 1 3 -3, -1 3 1, .", false},
		{3, allPairs, "3 -3, 1 -1 3, 3 1 -3, 1, 2 2 -2, .", true}, {2, "1 -1, 2 -2", ".", false}, {3, allPairs + ", 3 -3", "3 1 -3, 2, .", true}, {2, "1 -1", "1, .", false},
		// what is no literal in the trace
		{2, "1, -1", "0, .", false}, {2, "1, -1", "3, .", false}, {2, "1, -1", "-3, .", false}, {2, "1, -1", "., 1 3, .", false}, {2, "1, -1", "2, -2, 0 1, .", false}, {0, ".", "1, .", false},
		// what is no literal in the clauses
		{2, "1, -1, 0", ".", false}, {2, "1, -1, 3", ".", false}, {2, "., -3", ".", false},
	} {
		if got := holdCheck(t, c.vars, clausesRead(c.clauses), clausesRead(c.trace)); got != c.want {
			t.Errorf("%d: %s; trace %s: %v", c.vars, c.clauses, c.trace, got)
		}
	}
}

// A clause of a trace may have as many literals as there are variables, be that more than MaxLits or less.
func TestCheckTraceLengths(t *testing.T) {
	for _, vars := range []int{1, 2, 3, 10, 63, 64, 65, 66, 1000, 2047, 2048} {
		for more, want := range map[int]bool{-1: true, 0: true, 1: false, 2: false} {
			fits := append(firstVars(vars), 1, 1)[:vars+more]
			for what, trace := range map[string][][]int{
				"one":           {fits, {}},
				"ahead":         {fits, {1}, {-1}, {}},
				"behind":        {{}, {1}, fits, {}},
				"of 1 alone":    {slices.Repeat([]int{1}, vars+more), {}},
				"with opposite": {append(slices.Repeat([]int{1}, vars+more), -1)[min(1, vars+more):], {}},
			} {
				if got := impl.CheckTrace(vars, [][]int{{1}, {-1}}, trace); got != want {
					t.Errorf("%d variables, %d more literals: %s: %v", vars, more, what, got)
				}
			}
		}
	}
	// a long one that follows, and what follows by it
	for _, vars := range []int{65, 100, 2048} {
		list := firstVars(vars)
		clauses := [][]int{{1, 2}, {1, -2}, {-1, 2}, {-1, -2}}
		for v := 3; v <= vars; v++ {
			clauses = append(clauses, []int{-v, 1})
		}
		clauses = append(clauses, []int{-2, 1, 1})
		for want, trace := range map[bool][][]int{true: {list, {1}, {}}, false: {list, {}}} {
			if got := impl.CheckTrace(vars, clauses, trace); got != want {
				t.Errorf("%d variables: %d of trace: %v", vars, len(trace), got)
			}
		}
		// without the first clauses the long one alone leads to what is wanted
		if impl.CheckTrace(vars, clauses[1:], [][]int{list, {1}, {}}) {
			t.Errorf("%d variables: what does not follow is taken", vars)
		}
	}
	// the clauses may not be so long
	for count, want := range map[int]bool{64: true, 65: false, 100: false} {
		if got := impl.CheckTrace(100, [][]int{{1}, {-1}, firstVars(count)}, [][]int{firstVars(100), {}}); got != want {
			t.Errorf("a clause of %d literals: %v", count, got)
		}
	}
}

func TestCheckTraceLimits(t *testing.T) {
	const low, high = -1 << 63, 1<<63 - 1
	for count, want := range map[int]bool{4097: true, 8191: true, 8192: true, 8193: false, 20000: false} {
		for what, trace := range map[string][][]int{
			"empty clauses": make([][]int, count),
			"clauses of 1":  append(sameClauses(count-1, 1), nil),
			"pairs":         append(sameClauses(count-2, 1, 2), []int{1}, nil),
			"opposites":     append(append(sameClauses(count-2, 1, -1), []int{1}), nil),
		} {
			clauses := clausesRead(allPairs)
			if what == "empty clauses" {
				clauses = append(clauses, nil)
			}
			if got := impl.CheckTrace(2, clauses, trace); got != want {
				t.Errorf("%d %s: %v", count, what, got)
			}
		}
		if got := impl.CheckTrace(1, append(sameClauses(count-1, 1), []int{-1}), [][]int{{}}); got != want {
			t.Errorf("%d clauses: %v", count, got)
		}
	}
	for vars, want := range map[int]bool{0: false, 1: true, 2048: true, 2049: false, -1: false, low: false, high: false} {
		if got := impl.CheckTrace(vars, [][]int{{1}, {-1}}, [][]int{{}}); got != want {
			t.Errorf("%d variables: %v", vars, got)
		}
		if got := impl.CheckTrace(vars, [][]int{{}}, [][]int{{}}); got != (vars >= 0 && vars <= 2048) {
			t.Errorf("%d variables and an empty clause: %v", vars, got)
		}
	}
	for _, lit := range []int{0, 4, -4, 1 << 32, -1 << 32, low, low + 1, high} {
		for _, trace := range [][][]int{{{lit}, {}}, {{}, {1, lit}, {}}, {{lit, 1}, {}}} {
			if holdCheck(t, 3, [][]int{{}}, trace) {
				t.Errorf("%v is taken", trace)
			}
		}
	}
	// as many variables as there may be, each of which follows from the one ahead of it only by the trace
	var clauses, trace [][]int
	for v := 1; v < 2048; v++ {
		clauses = append(clauses, []int{-v, v + 1, 1}, []int{-v, v + 1, -1})
	}
	clauses = append(clauses, []int{-2048, 2}, []int{-2048, -2}, []int{1, 2}, []int{1, -2})
	for v := 1; v < 2048; v++ {
		trace = append(trace, []int{-v, v + 1})
	}
	trace = append(trace, []int{1}, nil)
	if !impl.CheckTrace(2048, clauses, trace) {
		t.Error("a long chain by the trace")
	}
	if impl.CheckTrace(2048, clauses[:len(clauses)-2], trace) || impl.CheckTrace(2048, clauses[1:], append([][]int{{3, -2047}}, trace...)) {
		t.Error("a long chain that is broken")
	}
}

// What is shown of one clause is taken back ahead of the next one.
func TestCheckTraceTakesBack(t *testing.T) {
	// 1 leads to a contradiction; that must not be left behind for what follows 2
	clauses := clausesRead("-1 3, -1 -3, -2 4, 5 6 2 -4")
	for _, c := range []struct {
		trace string
		want  bool
	}{
		{"-1, 2, .", false}, {"-1, -2, .", false}, {"-1, 4, .", false}, {"-1 2, -1, 3, .", false}, {"-1, .", false}, {"-2 -1, -2 4, -1, -2 -4, .", false}, {"-2 4, 4, .", false},
	} {
		if got := holdCheck(t, 6, clauses, clausesRead(c.trace)); got != c.want {
			t.Errorf("%s: %v", c.trace, got)
		}
	}
	for _, trace := range []string{"-1", "-1, -2 4", "-1, -1, -1 2 3, -3 -1", "-2 4, 4 -2"} {
		// each of these follows: behind them what has no values is shown
		broken := append(clausesCopied(clauses), clausesRead("7 8, 7 -8, -7 8, -7 -8")...)
		if !holdCheck(t, 8, broken, append(clausesRead(trace), []int{7}, nil)) {
			t.Errorf("%s is not taken", trace)
		}
	}
	if fmt.Sprint(clauses) != fmt.Sprint(clausesRead("-1 3, -1 -3, -2 4, 5 6 2 -4")) {
		t.Error("the clauses were changed")
	}
}
