package tests

import (
	"fmt"
	"slices"
	"strings"
	"testing"

	"loop.example/g00031/impl"
)

func TestAigConstants(t *testing.T) {
	if got := fmt.Sprint(impl.MaxAnds, impl.MaxBits); got != "8192 2048" {
		t.Error(got)
	}
}

// wantsAig holds AigOK against what is told; where that is no graph each call says so.
func wantsAig(t *testing.T, what string, a impl.Aig, want bool) {
	t.Helper()
	if got := impl.AigOK(a); got != want || aigTold(a) != want {
		t.Errorf("%s: %v, told %v", what, got, aigTold(a))
	}
	code := impl.OK
	if !want {
		code = impl.ErrBad
	}
	if rows, got := impl.AigRun(a, nil); got != code || len(rows) != 0 {
		t.Errorf("%s: AigRun: code %d, %d rows", what, got, len(rows))
	}
	if b, got := impl.AigBytes(a); !want && (got != impl.ErrBad || len(b) != 0) || want && got == impl.ErrBad {
		t.Errorf("%s: AigBytes: code %d, %q", what, got, b)
	}
}

// holdAigRun holds a graph's rows against what is told of them.
func holdAigRun(t *testing.T, a impl.Aig, steps []impl.Step) ([]impl.Row, int) {
	t.Helper()
	rows, code := impl.AigRun(a, steps)
	want, wantCode := aigRunTold(a, steps)
	if code != wantCode || rowsShown(rows) != rowsShown(want) {
		t.Fatalf("%s\n%v: code %d, want %d\n%s, want\n%s", aigShown(a), steps, code, wantCode, rowsShown(rows), rowsShown(want))
	}
	return rows, code
}

func TestAigOK(t *testing.T) {
	wantsAig(t, "nothing", impl.Aig{}, true)
	for _, text := range []string{
		theAig,
		"i", "| c", "i | c", "| | | | y:0 z:1", "| | | | | k:1", "i | | | | y:3 | k:2 q:2",
		// ands of false and true, of one literal, of opposites, the greater first, the same twice
		"| | | 0,0 0,1 1,1 2,3 5,4 6,6 7,0", "i | | | 2,3 3,2 2,2 0,2 3,1 2,3 | y:15",
		// a Next of its own, of another one, of false, of an input
		"i | c | l=1<4@0 m=0<4@0 n=0<0@0 o=1<2@0 p=0<13@0",
		// names that need not differ
		"i | c | i=0<2@0 c=0<2@0 y=0<2@0 | 2,2 | i:2 y:2 c:2 l:2 | y:2 i:2 l:2 c:2",
	} {
		wantsAig(t, text, aigRead(text), true)
		if again := aigWritten(aigRead(text)); aigShown(aigRead(again)) != aigShown(aigRead(text)) {
			t.Errorf("%s: read as %s", text, again)
		}
	}
	for _, text := range []string{
		// an and of itself, of one behind it, of what is not there
		"i | | | 4,2", "i | | | 2,4", "i | | | 2,5", "i | | | 2,6 2,3", "i | | | -1,2", "i | | | 2,-1", "| | | 2,0", "| | | 0,2", "| | | 0,3",
		// a literal that is not there
		"i | | | | y:4", "i | | | | y:-1", "i | | | | y:2 z:4", "i | | | | | k:4", "i | | | | | k:-1", "| | | | y:2", "i | | | 2,2 | y:6", "i | | | 2,2 | y:7", "| c | l=0<4@0", "| c | l=0<-1@0",
		// a clock that is not there
		"| | l=0<0@0", "| c | l=0<0@1", "| c | l=0<0@-1", "| c d | l=0<0@2",
		// an Init that is none
		"| c | l=2<0@0", "| c | l=-1<0@0", "| c | l=3<0@0 m=0<0@0",
		// names twice
		"i i", "i j i", "| c c", "i | i", "i j | c i", "| c | l=0<0@0 l=0<0@0", "| | | | y:0 y:0", "| | | | y:0 z:1 y:1", "| | | | | k:0 k:1",
	} {
		wantsAig(t, text, aigRead(text), false)
	}
	const low, high = -1 << 63, 1<<63 - 1
	for what, change := range map[string]func(a *impl.Aig){
		"an and far below":         func(a *impl.Aig) { a.Ands[3].A = low },
		"an and far above":         func(a *impl.Aig) { a.Ands[3].B = high },
		"an and of itself":         func(a *impl.Aig) { a.Ands[6].A = 24 },
		"its opposite":             func(a *impl.Aig) { a.Ands[6].B = 25 },
		"a Next far below":         func(a *impl.Aig) { a.Latches[1].Next = low },
		"a Next far above":         func(a *impl.Aig) { a.Latches[1].Next = high },
		"a Next above":             func(a *impl.Aig) { a.Latches[1].Next = 26 },
		"an out far below":         func(a *impl.Aig) { a.Outs[2].Lit = low },
		"an out far above":         func(a *impl.Aig) { a.Outs[2].Lit = high },
		"an out above":             func(a *impl.Aig) { a.Outs[2].Lit = 26 },
		"a check far above":        func(a *impl.Aig) { a.Checks[1].Lit = high },
		"a check above":            func(a *impl.Aig) { a.Checks[1].Lit = 26 },
		"a clock far above":        func(a *impl.Aig) { a.Latches[2].Clock = high },
		"a clock far below":        func(a *impl.Aig) { a.Latches[2].Clock = low },
		"an Init far above":        func(a *impl.Aig) { a.Latches[2].Init = high },
		"an Init far below":        func(a *impl.Aig) { a.Latches[2].Init = low },
		"no clocks":                func(a *impl.Aig) { a.Clocks = nil },
		"a clock less":             func(a *impl.Aig) { a.Clocks = a.Clocks[:1] },
		"an and less":              func(a *impl.Aig) { a.Ands = a.Ands[:6] },
		"an input less":            func(a *impl.Aig) { a.Ins = a.Ins[:1] },
		"an empty input":           func(a *impl.Aig) { a.Ins[1] = "" },
		"an empty clock":           func(a *impl.Aig) { a.Clocks[1] = "" },
		"an empty latch":           func(a *impl.Aig) { a.Latches = append(a.Latches, impl.Latch{}) },
		"an empty out":             func(a *impl.Aig) { a.Outs = append(a.Outs, impl.Pin{}) },
		"an empty check":           func(a *impl.Aig) { a.Checks = append(a.Checks, impl.Pin{}) },
		"very many ands":           func(a *impl.Aig) { a.Ands = make([]impl.And, 1<<20) },
		"very many inputs":         func(a *impl.Aig) { a.Ins = make([]string, 1<<20) },
		"very many latches":        func(a *impl.Aig) { a.Latches = make([]impl.Latch, 1<<20) },
		"very many clocks":         func(a *impl.Aig) { a.Clocks = make([]string, 1<<20) },
		"very many outs":           func(a *impl.Aig) { a.Outs = make([]impl.Pin, 1<<20) },
		"very many checks":         func(a *impl.Aig) { a.Checks = make([]impl.Pin, 1<<20) },
		"no graph at the very end": func(a *impl.Aig) { a.Checks[1].Name = a.Checks[0].Name },
	} {
		a := theGraph()
		change(&a)
		wantsAig(t, what, a, false)
	}
	for what, change := range map[string]func(a *impl.Aig){
		"the last literal there":       func(a *impl.Aig) { a.Outs[0].Lit, a.Checks[0].Lit, a.Latches[0].Next = 25, 25, 25 },
		"the last literal of an and":   func(a *impl.Aig) { a.Ands[6] = impl.And{A: 23, B: 23} },
		"the last clock":               func(a *impl.Aig) { a.Latches[0].Clock = 1 },
		"the other Init":               func(a *impl.Aig) { a.Latches[0].Init = 1 },
		"names of any bytes":           func(a *impl.Aig) { a.Ins[0], a.Outs[0].Name, a.Latches[0].Name = " ", "\x00", "\xff|" },
		"an input with a latch's name": func(a *impl.Aig) { a.Ins[0] = "l" },
		"a latch with an input's name": func(a *impl.Aig) { a.Latches[0].Name, a.Latches[1].Name = "i", "c" },
	} {
		a := theGraph()
		change(&a)
		wantsAig(t, what, a, true)
	}
}

func TestAigNames(t *testing.T) {
	names := map[string]func(a *impl.Aig) *string{
		"input": func(a *impl.Aig) *string { return &a.Ins[0] },
		"clock": func(a *impl.Aig) *string { return &a.Clocks[1] },
		"latch": func(a *impl.Aig) *string { return &a.Latches[2].Name },
		"out":   func(a *impl.Aig) *string { return &a.Outs[1].Name },
		"check": func(a *impl.Aig) *string { return &a.Checks[0].Name },
	}
	for what, name := range names {
		for length, want := range map[int]bool{0: false, 1: true, 999: true, impl.MaxLine: true, impl.MaxLine + 1: false, 1 << 20: false} {
			a := theGraph()
			*name(&a) = strings.Repeat("x", length)
			wantsAig(t, fmt.Sprint(what, " of ", length), a, want)
		}
	}
	// of each two kinds of names, which must differ
	for first, one := range names {
		for second, other := range names {
			a := theGraph()
			*one(&a) = "the same"
			*other(&a) = "the same"
			differ := first+second == "inputclock" || first+second == "clockinput"
			wantsAig(t, first+" and "+second, a, !differ)
		}
	}
}

// wideAig has so many of each, of which each and reads the one ahead of it.
func wideAig(ins, latches, ands, outs, checks, clocks int) impl.Aig {
	var a impl.Aig
	last := 2*(ins+latches+ands) + 1
	for i := range ins {
		a.Ins = append(a.Ins, fmt.Sprint("i", i))
	}
	for i := range clocks {
		a.Clocks = append(a.Clocks, fmt.Sprint("c", i))
	}
	for i := range latches {
		a.Latches = append(a.Latches, impl.Latch{Name: fmt.Sprint("l", i), Next: last - i%2, Init: i % 2, Clock: i % clocks})
	}
	for i := range ands {
		own := 2 * (1 + ins + latches + i)
		a.Ands = append(a.Ands, impl.And{A: own - 1, B: min(2*i, own-2)})
	}
	for i := range outs {
		a.Outs = append(a.Outs, impl.Pin{Name: fmt.Sprint("y", i), Lit: last})
	}
	for i := range checks {
		a.Checks = append(a.Checks, impl.Pin{Name: fmt.Sprint("k", i), Lit: last - 1})
	}
	return a
}

// Each bound at it and one beyond it.
func TestAigLimits(t *testing.T) {
	for _, c := range []struct {
		ins, latches, ands, outs, checks, clocks int
		want                                     bool
	}{
		{1, 0, 8192, 1, 0, 0, true}, {1, 0, 8193, 1, 0, 0, false},
		{2048, 0, 0, 0, 0, 0, true}, {2049, 0, 0, 0, 0, 0, false},
		{0, 2048, 0, 0, 0, 1, true}, {0, 2049, 0, 0, 0, 1, false},
		{1024, 1024, 0, 0, 0, 1, true}, {1024, 1025, 0, 0, 0, 1, false}, {1025, 1024, 0, 0, 0, 1, false}, {2048, 1, 0, 0, 0, 1, false}, {1, 2048, 0, 0, 0, 1, false},
		{1, 0, 0, 2048, 0, 0, true}, {1, 0, 0, 2049, 0, 0, false},
		{1, 0, 0, 0, 2048, 0, true}, {1, 0, 0, 0, 2049, 0, false},
		{1, 0, 0, 0, 0, 8, true}, {1, 0, 0, 0, 0, 9, false},
		{1000, 1048, 8192, 2048, 2048, 8, true},
		{1000, 1048, 8193, 2048, 2048, 8, false}, {1000, 1049, 8192, 2048, 2048, 8, false}, {1000, 1048, 8192, 2049, 2048, 8, false}, {1000, 1048, 8192, 2048, 2049, 8, false}, {1000, 1048, 8192, 2048, 2048, 9, false},
	} {
		wantsAig(t, fmt.Sprint(c), wideAig(c.ins, c.latches, c.ands, c.outs, c.checks, c.clocks), c.want)
	}
	a := wideAig(1000, 1048, 8192, 2048, 2048, 8)
	d := draughtsmanOf(5)
	holdAigRun(t, a, d.steps(a, 3))
	a.Outs[2047].Lit += 2
	wantsAig(t, "a literal above all", a, false)
}

func TestAigRun(t *testing.T) {
	const swap = "i | c d | l=0<6@0 m=1<4@0 n=0<4@1 | | x:4 y:6 z:9"
	for what, c := range map[string]struct{ text, steps, want string }{
		"nothing but steps":              {"", "/; /", "//; //"},
		"false and true":                 {"| | | | y:0 z:1 | k:1 q:0", "/", "0 1/1 0/"},
		"inputs and their opposites":     {"i j | | | | w:2 x:3 y:4 z:5", "0 1/; 1 0/", "0 1 1 0//; 1 0 0 1//"},
		"an and":                         {"i j | | | 2,4 | y:6 z:7", "0 0/; 0 1/; 1 0/; 1 1/", "0 1//; 0 1//; 0 1//; 1 0//"},
		"an and of opposites":            {"i j | | | 3,5 | y:6 z:7 | k:6", "0 0/; 0 1/; 1 0/; 1 1/", "1 0/1/; 0 1/0/; 0 1/0/; 0 1/0/"},
		"one turned, the greater first":  {"i j | | | 5,2 4,3 | y:6 z:8", "0 0/; 0 1/; 1 0/; 1 1/", "0 0//; 0 1//; 1 0//; 0 0//"},
		"ands of false and true":         {"i | | | 0,2 1,2 1,1 0,1 1,0 | u:4 v:6 w:8 x:10 y:12", "0/; 1/", "0 0 1 0 0//; 0 1 1 0 0//"},
		"one literal twice, opposites":   {"i | | | 2,2 2,3 3,3 | x:4 y:6 z:8", "0/; 1/", "0 0 1//; 1 0 0//"},
		"an exclusive or":                {"i j | | | 2,5 3,4 7,9 | y:11", "0 0/; 0 1/; 1 0/; 1 1/", "0//; 1//; 1//; 0//"},
		"a latch takes its Next":         {"i | c | l=0<2@0 | | y:4", "1/t; 0/t; 1/t", "1//1; 0//0; 1//1"},
		"and keeps it without a tick":    {"i | c | l=0<2@0 | | y:4", "1/-; 1/t; 0/-; 0/t; 1/-", "0//0; 1//1; 1//1; 0//0; 0//0"},
		"it begins as Init":              {"i | c | l=1<2@0 m=0<2@0 | | y:4 z:7", "0/-; 0/t; 1/t", "1 1//1 0; 0 1//0 0; 1 0//1 1"},
		"a latch that turns":             {"| c | l=0<3@0 | | y:2", "/t; /t; /-; /t", "1//1; 0//0; 0//0; 1//1"},
		"a Next of false, of true":       {"| c | l=1<0@0 m=0<1@0 n=1<6@0", "/-; /t; /t", "//1 0 1; //0 1 1; //0 1 1"},
		"latches take each other's":      {swap, "0/t-; 0/t-; 0/tt; 0/-t", "1 0 1//1 0 0; 0 1 1//0 1 0; 1 0 1//1 0 0; 1 0 0//1 0 1"},
		"a clock by itself":              {swap, "0/-t; 0/t-; 0/-t; 0/--", "0 1 1//0 1 0; 1 0 1//1 0 0; 1 0 0//1 0 1; 1 0 0//1 0 1"},
		"the row behind the tick":        {"i | c | l=0<3@0 | 2,4 3,5 | y:6 z:8 | k:9", "0/t; 1/t; 1/t; 0/-", "0 0/1/1; 0 0/1/0; 0 0/1/0; 0 1/0/0"},
		"counts, and keeps what was":     {theAig, "1 1/tt; 1 0/t-; 0 1/-t; 1 1/t-; 1 0/tt", "1 0 0/0 1/1 1 1; 0 1 0/1 1/0 0 1; 0 1 0/0 1/0 0 1; 1 1 0/0 0/1 0 1; 0 0 1/1 0/0 1 0"},
		"the last inputs are the step's": {"i | c | l=0<2@0 | 2,5 | y:6", "1/t; 0/-; 1/-", "0//1; 0//1; 0//1"},
		"a shift register":               {"i | c | l=0<2@0 m=0<4@0 n=0<6@0", "1/t; 0/t; 0/t; 1/t", "//1 0 0; //0 1 0; //0 0 1; //1 0 0"},
	} {
		rows, code := holdAigRun(t, aigRead(c.text), stepsOf(c.steps))
		if code != impl.OK || rowsWritten(rows) != c.want {
			t.Errorf("%s: code %d, %s, want %s", what, code, rowsWritten(rows), c.want)
		}
	}
}

func TestAigRunFaults(t *testing.T) {
	wrong := theGraph()
	wrong.Latches[0].Init = 2
	bad := func(change func(s *impl.Step)) []impl.Step {
		steps := stepsOf("0 1/t-; 1 0/-t; 1 1/tt")
		change(&steps[1])
		return steps
	}
	last := bad(func(s *impl.Step) {})
	last[2].Ins[1] = "x"
	for what, c := range map[string]struct {
		a     impl.Aig
		steps []impl.Step
		want  int
	}{
		"right":                           {theGraph(), bad(func(s *impl.Step) {}), impl.OK},
		"no steps":                        {theGraph(), nil, impl.OK},
		"nothing at all":                  {impl.Aig{}, nil, impl.OK},
		"steps of nothing":                {impl.Aig{}, make([]impl.Step, 3), impl.OK},
		"no graph":                        {wrong, stepsOf("0 1/t-"), impl.ErrBad},
		"no graph and no steps":           {wrong, nil, impl.ErrBad},
		"an empty step":                   {theGraph(), make([]impl.Step, 1), impl.ErrBad},
		"an input less":                   {theGraph(), bad(func(s *impl.Step) { s.Ins = s.Ins[:1] }), impl.ErrBad},
		"an input more":                   {theGraph(), bad(func(s *impl.Step) { s.Ins = append(s.Ins, "0") }), impl.ErrBad},
		"a clock less":                    {theGraph(), bad(func(s *impl.Step) { s.Ticks = s.Ticks[:1] }), impl.ErrBad},
		"a clock more":                    {theGraph(), bad(func(s *impl.Step) { s.Ticks = append(s.Ticks, false) }), impl.ErrBad},
		"no clocks":                       {theGraph(), bad(func(s *impl.Step) { s.Ticks = nil }), impl.ErrBad},
		"no bit":                          {theGraph(), bad(func(s *impl.Step) { s.Ins[1] = "" }), impl.ErrBad},
		"two bits":                        {theGraph(), bad(func(s *impl.Step) { s.Ins[1] = "01" }), impl.ErrBad},
		"a bit that is not known":         {theGraph(), bad(func(s *impl.Step) { s.Ins[0] = "x" }), impl.ErrBad},
		"a bit that is not driven":        {theGraph(), bad(func(s *impl.Step) { s.Ins[0] = "z" }), impl.ErrBad},
		"no bit at all":                   {theGraph(), bad(func(s *impl.Step) { s.Ins[0] = "2" }), impl.ErrBad},
		"a blank":                         {theGraph(), bad(func(s *impl.Step) { s.Ins[0] = " " }), impl.ErrBad},
		"a very long text":                {theGraph(), bad(func(s *impl.Step) { s.Ins[0] = zeros(1 << 20) }), impl.ErrBad},
		"wrong in the last step":          {theGraph(), last, impl.ErrBad},
		"an input where there is none":    {impl.Aig{}, []impl.Step{{Ins: []string{"0"}}}, impl.ErrBad},
		"a clock where there is none":     {impl.Aig{}, []impl.Step{{Ticks: []bool{true}}}, impl.ErrBad},
		"as many steps as can be":         {theGraph(), slices.Repeat(stepsOf("0 1/t-"), impl.MaxList), impl.OK},
		"a step more":                     {theGraph(), slices.Repeat(stepsOf("0 1/t-"), impl.MaxList+1), impl.ErrLong},
		"a step more of no graph":         {wrong, make([]impl.Step, impl.MaxList+1), impl.ErrLong},
		"wrong steps, one more":           {theGraph(), make([]impl.Step, impl.MaxList+1), impl.ErrLong},
		"as many, all of them wrong":      {theGraph(), make([]impl.Step, impl.MaxList), impl.ErrBad},
		"as many of nothing":              {impl.Aig{}, make([]impl.Step, impl.MaxList), impl.OK},
		"very many steps of no graph":     {wrong, make([]impl.Step, 1<<20), impl.ErrLong},
		"very many steps of nothing":      {impl.Aig{}, make([]impl.Step, 1<<20), impl.ErrLong},
		"very many inputs of no graph":    {wrong, []impl.Step{{Ins: make([]string, 1<<20)}}, impl.ErrBad},
		"very many inputs of a graph":     {theGraph(), []impl.Step{{Ins: make([]string, 1<<20), Ticks: make([]bool, 2)}}, impl.ErrBad},
		"no steps and very much nowhere":  {impl.Aig{Ins: make([]string, 1<<20)}, nil, impl.ErrBad},
		"a graph with but clocks, a step": {aigRead("| c d"), stepsOf("/t-"), impl.OK},
	} {
		rows, code := holdAigRun(t, c.a, c.steps)
		if code != c.want || code != impl.OK && len(rows) != 0 || code == impl.OK && len(rows) != len(c.steps) {
			t.Errorf("%s: code %d, %d rows", what, code, len(rows))
		}
	}
}
