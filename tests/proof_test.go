package tests

import (
	"fmt"
	"slices"
	"strings"
	"testing"

	"loop.example/g00031/impl"
)

// holdProofCheck holds CheckProof against what is told of it.
func holdProofCheck(t *testing.T, a impl.Aig, p impl.Proof) bool {
	t.Helper()
	got := impl.CheckProof(a, p)
	if want := checkProofTold(a, p); got != want {
		t.Fatalf("%s: %s: %v", aigWritten(a), proofShown(p), got)
	}
	return got
}

// wantsProof: the proof is taken, or not.
func wantsProof(t *testing.T, what string, a impl.Aig, p impl.Proof, want bool) {
	t.Helper()
	if got := holdProofCheck(t, a, p); got != want {
		t.Errorf("%s: %s: %v", what, proofShown(p), got)
	}
}

// proofRead reads a proof as proofWritten writes it; Inputs are `-` where there are none, and between them stands a `,`.
func proofRead(kind, steps int, inputs, state, traces string) impl.Proof {
	p := impl.Proof{Kind: kind, Steps: steps, State: state}
	if inputs != "-" {
		p.Inputs = strings.Split(inputs, ",")
	}
	for part := range strings.SplitSeq(traces, "/") {
		if strings.TrimSpace(part) != "" {
			p.Traces = append(p.Traces, clausesRead(part))
		}
	}
	return p
}

func TestCheckProofOfHolds(t *testing.T) {
	const none = "-"
	for what, c := range map[string]struct {
		text  string
		proof impl.Proof
		want  bool
	}{
		"true":                            {"| | | | | k:1", proofRead(1, 1, none, "", "."), true},
		"true in three steps":             {"i | | | | | k:1", proofRead(1, 3, none, "", ". / . / ."), true},
		"a trace too few":                 {"i | | | | | k:1", proofRead(1, 3, none, "", ". / ."), false},
		"a trace too many":                {"i | | | | | k:1", proofRead(1, 3, none, "", ". / . / . / ."), false},
		"no traces":                       {"i | | | | | k:1", proofRead(1, 1, none, "", ""), false},
		"no steps":                        {"i | | | | | k:1", proofRead(1, 0, none, "", ""), false},
		"no steps and a trace":            {"i | | | | | k:1", proofRead(1, 0, none, "", "."), false},
		"a state":                         {"i | | | | | k:1", proofRead(1, 1, none, "0", "."), false},
		"inputs":                          {"i | | | | | k:1", proofRead(1, 1, "0", "", "."), false},
		"an empty text of inputs":         {"| | | | | k:1", proofRead(1, 1, "", "", "."), false},
		"what fails":                      {"i | | | | | k:2", proofRead(1, 1, none, "", "."), false},
		"what fails later":                {"i | c | l=0<2@0 m=0<4@0 | | | k:7", proofRead(1, 2, none, "", ". / ."), false},
		"what fails later, a step sooner": {"i | c | l=0<2@0 m=0<4@0 | | | k:7", proofRead(1, 1, none, "", "."), true},
		"an empty clause alone":           {neverBoth, proofRead(1, 1, none, "", "."), false},
		"as it is searched for":           {neverBoth, proofRead(1, 1, none, "", "2, -2, ."), true},
		"with the first of them alone":    {neverBoth, proofRead(1, 1, none, "", "2, ."), true},
		"with the second alone":           {neverBoth, proofRead(1, 1, none, "", "-2, ."), true},
		"of the other input":              {neverBoth, proofRead(1, 1, none, "", "3, ."), true},
		"that does not end":               {neverBoth, proofRead(1, 1, none, "", "2, -2"), false},
		"of ands":                         {neverBoth, proofRead(1, 1, none, "", "4, 5, ."), true},
		"of a literal that is not there":  {neverBoth, proofRead(1, 1, none, "", "2, -2, 12, ."), false},
		"of the last variable":            {neverBoth, proofRead(1, 1, none, "", "2, -2, 10, ."), true},
		"of one above":                    {neverBoth, proofRead(1, 1, none, "", "2, 11, ."), false},
		"of another step":                 {neverBoth, proofRead(1, 2, none, "", "2, . / 2, ."), false},
		"of its own inputs":               {neverBoth, proofRead(1, 2, none, "", "2, . / 4, ."), true},
		"exchanged":                       {neverBoth, proofRead(1, 2, none, "", "4, . / 2, ."), false},
		"with 0":                          {neverBoth, proofRead(1, 1, none, "", "0, 2, ."), false},
		"empty clauses":                   {"| | | | | k:1", impl.Proof{Kind: 1, Steps: 1, Traces: [][][]int{{{}, {}, {}}}}, true},
		"a trace without clauses":         {"| | | | | k:1", impl.Proof{Kind: 1, Steps: 1, Traces: [][][]int{{}}}, false},
		"a trace that is nil":             {"| | | | | k:1", impl.Proof{Kind: 1, Steps: 1, Traces: make([][][]int, 1)}, false},
		"empty lists":                     {"| | | | | k:1", impl.Proof{Kind: 1, Steps: 1, Inputs: []string{}, Traces: [][][]int{{{}}}}, true},
	} {
		wantsProof(t, what, aigRead(c.text), c.proof, c.want)
	}
}

func TestCheckProofOfProved(t *testing.T) {
	const none = "-"
	for what, c := range map[string]struct {
		text  string
		proof impl.Proof
		want  bool
	}{
		"true":                            {"| | | | | k:1", proofRead(3, 1, none, "", ". / ."), true},
		"of three steps":                  {"| | | | | k:1", proofRead(3, 3, none, "", ". / . / . / ."), true},
		"a trace too few":                 {"| | | | | k:1", proofRead(3, 3, none, "", ". / . / ."), false},
		"a trace too many":                {"| | | | | k:1", proofRead(3, 3, none, "", ". / . / . / . / ."), false},
		"no steps and a trace":            {"| | | | | k:1", proofRead(3, 0, none, "", "."), false},
		"a state":                         {keptZero, proofRead(3, 2, none, "000", ". / . / ."), false},
		"inputs":                          {keptZero, proofRead(3, 2, ",,", "", ". / . / ."), false},
		"one by one":                      {keptZero, proofRead(3, 2, none, "", ". / . / ."), true},
		"of more steps":                   {keptZero, proofRead(3, 3, none, "", ". / . / . / ."), true},
		"what is open":                    {keptZero, proofRead(3, 1, none, "", ". / ."), false},
		"what is open, of many steps":     {neverOpen, proofRead(3, 4, none, "", ". / . / . / . / ."), false},
		"what is open, as Holds":          {neverOpen, proofRead(1, 4, none, "", ". / . / . / ."), true},
		"what fails at the first step":    {"| c | l=1<2@0 | | | k:3", proofRead(3, 1, none, "", ". / ."), false},
		"what fails at the second":        {"| c | l=0<1@0 m=0<2@0 | | | k:5", proofRead(3, 1, none, "", ". / ."), false},
		"begun otherwise":                 {"| c | l=1<2@0 m=0<2@0 n=0<4@0 | | | k:7", proofRead(3, 2, none, "", ". / . / ."), false},
		"searched for":                    {neverBoth, proofRead(3, 1, none, "", "2, . / 4, ."), true},
		"the last one of the first step":  {neverBoth, proofRead(3, 1, none, "", "2, . / 2, ."), false},
		"with latches ahead of inputs":    {"i j | c | l=0<2@0 | 2,5 3,4 9,11 2,4 3,5 15,17 13,19 | | k:21", proofRead(3, 1, none, "", "2, . / 5, ."), true},
		"the same, of the wrong variable": {"i j | c | l=0<2@0 | 2,5 3,4 9,11 2,4 3,5 15,17 13,19 | | k:21", proofRead(3, 1, none, "", "2, . / 4, ."), false},
		"with the and that bad is":        {neverBoth, proofRead(3, 1, none, "", "2, . / 20, 5, ."), true},
		"with its opposite":               {neverBoth, proofRead(3, 1, none, "", "2, . / -20, 5, ."), false},
		"with one above it":               {neverBoth, proofRead(3, 1, none, "", "2, . / 21, 5, ."), false},
	} {
		wantsProof(t, what, aigRead(c.text), c.proof, c.want)
	}
}

func TestCheckProofOfFails(t *testing.T) {
	const (
		none  = "-"
		later = "i | c | l=0<2@0 m=0<4@0 | | | k:7"
		both  = "i j | c | l=0<2@0 | 2,7 | | k:9 q:5"
	)
	for what, c := range map[string]struct {
		text  string
		proof impl.Proof
		want  bool
	}{
		"as it is told":                   {"i | | | | | k:2", proofRead(2, 1, "0", "", ""), true},
		"inputs with which it holds":      {"i | | | | | k:2", proofRead(2, 1, "1", "", ""), false},
		"false":                           {"| | | | | k:0", proofRead(2, 1, "", "", ""), true},
		"false, of many steps":            {"| | | | | k:0", proofRead(2, 3, ",,", "", ""), true},
		"no inputs at all":                {"| | | | | k:0", proofRead(2, 1, none, "", ""), false},
		"no steps":                        {"| | | | | k:0", proofRead(2, 0, none, "", ""), false},
		"true":                            {"| | | | | k:1", proofRead(2, 1, "", "", ""), false},
		"at the second step":              {later, proofRead(2, 2, "1,0", "", ""), true},
		"not the least":                   {later, proofRead(2, 2, "1,1", "", ""), true},
		"and later":                       {later, proofRead(2, 3, "0,1,0", "", ""), true},
		"and much later":                  {later, proofRead(2, 5, "0,1,0,1,1", "", ""), true},
		"with one that failed ahead":      {later, proofRead(2, 4, "1,1,1,0", "", ""), true},
		"0 only ahead of the last":        {later, proofRead(2, 3, "1,0,0", "", ""), false},
		"never 0":                         {later, proofRead(2, 3, "0,0,0", "", ""), false},
		"a step too soon":                 {later, proofRead(2, 1, "1", "", ""), false},
		"a step too few":                  {later, proofRead(2, 2, "1", "", ""), false},
		"steps too few":                   {later, proofRead(2, 1, "1,0", "", ""), false},
		"an input too many":               {later, proofRead(2, 2, "11,00", "", ""), false},
		"an input too few":                {later, proofRead(2, 2, "1,", "", ""), false},
		"a state":                         {later, proofRead(2, 2, "1,0", "00", ""), false},
		"a trace":                         {later, proofRead(2, 2, "1,0", "", "."), false},
		"traces":                          {later, proofRead(2, 2, "1,0", "", ". / ."), false},
		"not known":                       {later, proofRead(2, 2, "1,x", "", ""), false},
		"not driven":                      {later, proofRead(2, 2, "1,z", "", ""), false},
		"not a bit":                       {later, proofRead(2, 2, "1,2", "", ""), false},
		"a blank":                         {later, proofRead(2, 2, "1, ", "", ""), false},
		"a byte 0":                        {later, proofRead(2, 2, "1,\x00", "", ""), false},
		"a byte 255":                      {later, proofRead(2, 2, "1,\xff", "", ""), false},
		"a sign of two bytes":             {both, proofRead(2, 1, "é", "", ""), false},
		"a sign of two bytes and one":     {both, proofRead(2, 1, "é0", "", ""), false},
		"neither of two checks":           {both, proofRead(2, 1, "10", "", ""), false},
		"the second one alone":            {both, proofRead(2, 1, "01", "", ""), true},
		"it, but only ahead":              {both, proofRead(2, 2, "01,10", "", ""), false},
		"of a kind that it is not, holds": {"i | | | | | k:2", proofRead(1, 1, "0", "", ""), false},
		"proved":                          {"i | | | | | k:2", proofRead(3, 1, "0", "", ""), false},
		"open":                            {"i | | | | | k:2", proofRead(4, 1, "0", "", ""), false},
	} {
		wantsProof(t, what, aigRead(c.text), c.proof, c.want)
	}
}

// What is open is never taken, be it right or not; neither are kinds that there are not.
func TestCheckProofOfOtherKinds(t *testing.T) {
	const low, high = -1 << 63, 1<<63 - 1
	p, code := impl.Induction(aigRead(keptZero), 1, 10)
	if code != impl.OK || p.Kind != impl.Open {
		t.Fatalf("code %d, %s", code, proofWritten(p))
	}
	wantsProof(t, "open", aigRead(keptZero), p, false)
	for _, kind := range []int{0, -1, 5, 6, low, high, 1<<32 + 1, 1<<32 + 2, 1<<32 + 3, impl.Open} {
		wantsProof(t, "a Holds", aigRead("| | | | | k:1"), proofRead(kind, 1, "-", "", "."), false)
		wantsProof(t, "a Proved", aigRead("| | | | | k:1"), proofRead(kind, 1, "-", "", ". / ."), false)
		wantsProof(t, "a Fails", aigRead("i | | | | | k:2"), proofRead(kind, 1, "0", "", ""), false)
		wantsProof(t, "nothing", aigRead("i | | | | | k:2"), impl.Proof{Kind: kind}, false)
		p.Kind = kind
		wantsProof(t, "an Open", aigRead(keptZero), p, false)
	}
	wantsProof(t, "nothing of nothing", impl.Aig{}, impl.Proof{}, false)
}

// As many steps as can be, and one more.
func TestCheckProofSteps(t *testing.T) {
	const low, high = -1 << 63, 1<<63 - 1
	yes, no := aigRead("| | | | | k:1"), aigRead("| | | | | k:0")
	for steps := range 20 {
		traces := slices.Repeat([][][]int{{{}}}, steps)
		fits := steps >= 1 && steps <= 16
		wantsProof(t, "holds", yes, impl.Proof{Kind: impl.Holds, Steps: steps, Traces: traces}, fits)
		wantsProof(t, "proved", yes, impl.Proof{Kind: impl.Proved, Steps: steps, Traces: append(traces, [][]int{{}})}, fits && steps < 16)
		wantsProof(t, "fails", no, impl.Proof{Kind: impl.Fails, Steps: steps, Inputs: make([]string, steps)}, fits)
		for _, other := range []int{low, low + 1, -1, 0, 17, high, -steps, steps + 1, steps + 2, steps - 1, steps + 1<<32} {
			wantsProof(t, "holds", yes, impl.Proof{Kind: impl.Holds, Steps: other, Traces: traces}, false)
			if other != steps-1 || steps < 2 || steps > 16 {
				wantsProof(t, "proved", yes, impl.Proof{Kind: impl.Proved, Steps: other, Traces: traces}, false)
			}
			wantsProof(t, "fails", no, impl.Proof{Kind: impl.Fails, Steps: other, Inputs: make([]string, steps)}, false)
		}
	}
	for _, count := range []int{4096, 4097, 1 << 16} {
		wantsProof(t, "many traces", yes, impl.Proof{Kind: impl.Holds, Steps: count, Traces: make([][][]int, count)}, false)
		wantsProof(t, "many inputs", no, impl.Proof{Kind: impl.Fails, Steps: count, Inputs: make([]string, count)}, false)
		wantsProof(t, "a long state", yes, impl.Proof{Kind: impl.Holds, Steps: 1, Traces: [][][]int{{{}}}, State: zeros(count)}, false)
		wantsProof(t, "a long text", no, impl.Proof{Kind: impl.Fails, Steps: 1, Inputs: []string{zeros(count)}}, false)
	}
	for count, want := range map[int]bool{1: true, 4097: true, 8192: true, 8193: false} {
		wantsProof(t, "a long trace", yes, impl.Proof{Kind: impl.Holds, Steps: 1, Traces: [][][]int{make([][]int, count)}}, want)
	}
}

// Graphs of which there is no proof.
func TestCheckProofGraphs(t *testing.T) {
	holds, proved, fails := proofRead(1, 1, "-", "", "."), proofRead(3, 1, "-", "", ". / ."), proofRead(2, 1, "0", "", "")
	for what, c := range map[string]struct {
		text                 string
		holds, proved, fails bool
	}{
		"true":                     {"i | | | | | k:1", true, true, false},
		"true with a clock":        {"i | c | | | | k:1", true, true, false},
		"true with two clocks":     {"i | c d | | | | k:1", false, false, false},
		"true twice":               {"i | | | | | k:1 q:1", true, true, false},
		"true and false":           {"i | | | | | k:1 q:0", false, false, true},
		"false":                    {"i | | | | | k:0", false, false, true},
		"false with a clock":       {"i | c | l=0<2@0 | | | k:0", false, false, true},
		"false with two clocks":    {"i | c d | l=0<2@0 | | | k:0", false, false, false},
		"no checks":                {"i | | | | y:0", false, false, false},
		"a false out":              {"i | | | | y:0 | k:1", true, true, false},
		"no graph, true":           {"i | | | 4,4 | | k:1", false, false, false},
		"no graph, false":          {"i | | | 4,4 | | k:0", false, false, false},
		"no graph, by its names":   {"i i | | | | | k:0", false, false, false},
		"no inputs, true":          {"| | | | | k:1", true, true, false},
		"no inputs, false":         {"| | | | | k:0", false, false, false},
		"a latch that stays":       {"i | c | l=1<4@0 | | | k:4", true, true, false},
		"a latch that it takes":    {"i | c | l=1<2@0 | | | k:4", false, false, true},
		"holds, but is not proved": {"i | c | l=0<4@0 m=0<4@0 n=0<6@0 | | | k:9", true, false, false},
	} {
		a := aigRead(c.text)
		wantsProof(t, what+": holds", a, holds, c.holds)
		wantsProof(t, what+": proved", a, proved, c.proved)
		wantsProof(t, what+": fails", a, fails, c.fails)
	}
	for what, a := range notGraphs() {
		for kind := range 5 {
			wantsProof(t, what, a, impl.Proof{Kind: kind, Steps: 1, Traces: [][][]int{{{}}}}, false)
			wantsProof(t, what, a, impl.Proof{Kind: kind, Steps: 1, Inputs: []string{"00"}}, false)
		}
	}
}

// Where clauses cannot be made nothing is shown by traces; a run needs none.
func TestCheckProofWithoutClauses(t *testing.T) {
	long := aigRead("i | c | l=0<4@0 | | | k:5")
	long.Latches[0].Name = strings.Repeat("n", 999)
	wantsProof(t, "a long latch, holds", long, proofRead(1, 2, "-", "", ". / ."), true)
	wantsProof(t, "a long latch, proved", long, proofRead(3, 1, "-", "", ". / ."), false)
	long.Ins[0] = strings.Repeat("n", 999)
	wantsProof(t, "a long input, holds", long, proofRead(1, 2, "-", "", ". / ."), false)
	long.Latches[0].Init = 1
	wantsProof(t, "a long input, fails", long, proofRead(2, 2, "0,0", "", ""), true)
	for ins, want := range map[int]bool{1023: true, 1024: false} {
		a := withCheck(wideAig(ins, 0, 0, 0, 0, 0), 1)
		wantsProof(t, fmt.Sprint(ins, " inputs, holds"), a, proofRead(1, 2, "-", "", ". / ."), want)
		wantsProof(t, fmt.Sprint(ins, " inputs, one step"), a, proofRead(1, 1, "-", "", "."), true)
		wantsProof(t, fmt.Sprint(ins, " inputs, proved"), a, proofRead(3, 1, "-", "", ". / ."), want)
	}
	wide := withCheck(wideAig(2048, 0, 0, 0, 0, 0), 2)
	wantsProof(t, "many inputs, fails", wide, proofRead(2, 2, zeros(2048)+","+zeros(2048), "", ""), true)
	wantsProof(t, "many inputs, a bit less", wide, proofRead(2, 2, zeros(2048)+","+zeros(2047), "", ""), false)
	wantsProof(t, "many inputs, a bit more", wide, proofRead(2, 2, zeros(2049)+","+zeros(2048), "", ""), false)
}

// The ands of bad stand behind those of the graph: first that of the checks of the last step, then that of those ahead, then that of both.
func TestCheckProofOrderOfBad(t *testing.T) {
	a := aigRead("i j k")
	puzzle(&a, 2, 4)
	puzzle(&a, 4, 6)
	told, code := impl.Induction(a, 1, 4000)
	whole, _ := impl.Unroll(a, 2, true)
	if code != impl.OK || told.Kind != impl.Proved {
		t.Fatalf("code %d, %s", code, proofWritten(told))
	}
	last := len(whole.Ins) + len(whole.Ands) + 1
	for lit, want := range map[int]bool{-last - 1: true, last + 1: false, last + 2: true, -last - 2: false, last + 3: true, -last - 3: false, last + 4: false, -last - 4: false} {
		p := proofCopied(told)
		p.Traces[1] = append([][]int{{lit}}, p.Traces[1]...)
		wantsProof(t, fmt.Sprint("with ", lit), a, p, want)
	}
	// of Bounded there is but the one of the last step
	one, _ := impl.Unroll(a, 1, false)
	last = len(one.Ins) + len(one.Ands) + 1
	for lit, want := range map[int]bool{-last - 1: true, last + 1: false, last + 2: false, -last - 2: false} {
		p := proofCopied(told)
		p.Traces[0] = append([][]int{{lit}}, p.Traces[0]...)
		wantsProof(t, fmt.Sprint("the first step with ", lit), a, p, want)
	}
}
