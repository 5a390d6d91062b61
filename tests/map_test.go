package tests

import (
	"fmt"
	"slices"
	"strings"
	"testing"

	"loop.example/g00031/impl"
)

func TestMapConstants(t *testing.T) {
	if impl.MaxLuts != 1024 {
		t.Error(impl.MaxLuts)
	}
}

// wantsMap holds MapOK against what is told; where that is no mapped design each call says so.
func wantsMap(t *testing.T, what string, m impl.Mapped, want bool) {
	t.Helper()
	if got := impl.MapOK(m); got != want || mapTold(m) != want {
		t.Errorf("%s: %v, told %v", what, got, mapTold(m))
	}
	code := impl.OK
	if !want {
		code = impl.ErrBad
	}
	if rows, got := impl.MapRun(m, nil); got != code || len(rows) != 0 {
		t.Errorf("%s: MapRun: code %d, %d rows", what, got, len(rows))
	}
	if depth := holdMapDepth(t, m); (depth < 0) == want {
		t.Errorf("%s: depth %d", what, depth)
	}
}

// holdMapRun holds a mapped design's rows against what is told of them.
func holdMapRun(t *testing.T, m impl.Mapped, steps []impl.Step) ([]impl.Row, int) {
	t.Helper()
	rows, code := impl.MapRun(m, steps)
	want, wantCode := mapRunTold(m, steps)
	if code != wantCode || rowsShown(rows) != rowsShown(want) {
		t.Fatalf("%s\n%v: code %d, want %d\n%s, want\n%s", mapShown(m), steps, code, wantCode, rowsShown(rows), rowsShown(want))
	}
	return rows, code
}

func holdMapDepth(t *testing.T, m impl.Mapped) int {
	t.Helper()
	depth := impl.MapDepth(m)
	if want := mapDepthTold(m); depth != want {
		t.Fatalf("%s: depth %d, want %d", mapShown(m), depth, want)
	}
	return depth
}

func TestMapOK(t *testing.T) {
	wantsMap(t, "nothing", impl.Mapped{}, true)
	for _, text := range []string{
		theMap,
		"i", "| c", "i | c", "i | | | | y:0 z:0 | k:0", "| | | =0 =1 | y:0 z:1 | k:1 q:1",
		// as many In as there may be, in any order, tables among them
		"i j k l | | | 0=2 0,1=8 1,0=8 3,1,2,0=1 4,0=2 7,5,4,6=65535",
		// Table's greatest one by the number of In
		"i j k l | | | =1 0=3 0,1=15 0,1,2=255 0,1,2,3=65535",
		// a register of its own, of another one, of an input, of a table, of the last one
		"i | c | l=1<1@0 m=0<1@0 n=0<0@0 o=1<5@0 p=0<7@0 | 0=1 5=1 =0",
		// names that need not differ
		"i | c | i=0<0@0 c=0<0@0 y=0<0@0 | =1 | i:0 y:0 c:0 l:0 | y:0 i:0 l:0 c:0",
	} {
		wantsMap(t, text, mapRead(text), true)
		if again := mapWritten(mapRead(text)); mapShown(mapRead(again)) != mapShown(mapRead(text)) {
			t.Errorf("%s: read as %s", text, again)
		}
	}
	for _, text := range []string{
		// a table of itself, of one behind it, of what is not there
		"i | | | 1=2", "i | | | 2=2 =1", "i | | | 0,1=2", "i | | | -1=2", "i | | | 0,-1=2", "| | | 0=2", "| | | =1 2=2 =0", "i | c | l=0<0@0 | 2=2",
		// a source twice
		"i j | | | 0,0=2", "i j | | | 0,1,0=2", "i j | | | 1,0,0=2", "i j k | | | 0,1,2,0=1", "i | | | 0=2 1,1=0",
		// more In than there may be
		"i j k l m | | | 0,1,2,3,4=1", "i j k l m | | | 0,1,2,3,4=0",
		// a Table that is none, by the number of In
		"| | | =2", "| | | =-1", "i | | | 0=4", "i | | | 0=-1", "i j | | | 0,1=16", "i j | | | 0,1=-1", "i j k | | | 0,1,2=256", "i j k | | | 0,1,2=-1", "i j k l | | | 0,1,2,3=65536", "i j k l | | | 0,1,2,3=-1",
		// a source that is not there
		"i | | | | y:1", "i | | | | y:-1", "i | | | | y:0 z:1", "i | | | | | k:1", "i | | | | | k:-1", "| | | | y:0", "| | | | | k:0", "i | | | =1 | y:2", "i | c | l=0<2@0", "| c | l=0<1@0", "| c | l=0<-1@0", "| c | l=0<2@0 | =1",
		// a clock that is not there
		"| | l=0<0@0", "| c | l=0<0@1", "| c | l=0<0@-1", "| c d | l=0<0@2",
		// an Init that is none
		"| c | l=2<0@0", "| c | l=-1<0@0", "| c | l=3<0@0 m=0<0@0",
		// names twice
		"i i", "i j i", "| c c", "i | i", "i j | c i", "| c | l=0<0@0 l=0<0@0", "i | | | | y:0 y:0", "i | | | | y:0 z:0 y:0", "i | | | | | k:0 k:0",
	} {
		wantsMap(t, text, mapRead(text), false)
	}
}

func TestMapOKFarOut(t *testing.T) {
	const low, high = -1 << 63, 1<<63 - 1
	for what, piece := range map[string]func(m *impl.Mapped) *int{
		"a table's In":     func(m *impl.Mapped) *int { return &m.Luts[1].In[2] },
		"a table's Table":  func(m *impl.Mapped) *int { return &m.Luts[3].Table },
		"a greater one's":  func(m *impl.Mapped) *int { return &m.Luts[1].Table },
		"an out's Src":     func(m *impl.Mapped) *int { return &m.Outs[2].Src },
		"a check's Src":    func(m *impl.Mapped) *int { return &m.Checks[1].Src },
		"a register's Src": func(m *impl.Mapped) *int { return &m.Regs[0].Src },
		"an Init":          func(m *impl.Mapped) *int { return &m.Regs[1].Init },
		"a Clock":          func(m *impl.Mapped) *int { return &m.Regs[2].Clock },
	} {
		for _, value := range []int{low, low + 1, -1 << 32, 1 << 32, high - 1, high} {
			m := theMapped()
			*piece(&m) = value
			wantsMap(t, fmt.Sprint(what, " ", value), m, false)
		}
	}
	for _, count := range []int{5, 6, 32, 63, 64, 65, 1 << 20} {
		m := theMapped()
		m.Luts[4].In = make([]int, count)
		wantsMap(t, fmt.Sprint(count, " of In"), m, false)
	}
}

func TestMapNames(t *testing.T) {
	names := map[string]func(m *impl.Mapped) *string{
		"input":    func(m *impl.Mapped) *string { return &m.Ins[0] },
		"clock":    func(m *impl.Mapped) *string { return &m.Clocks[1] },
		"register": func(m *impl.Mapped) *string { return &m.Regs[2].Name },
		"out":      func(m *impl.Mapped) *string { return &m.Outs[1].Name },
		"check":    func(m *impl.Mapped) *string { return &m.Checks[0].Name },
	}
	for what, name := range names {
		for length, want := range map[int]bool{0: false, 1: true, 999: true, impl.MaxLine: true, impl.MaxLine + 1: false, 1 << 20: false} {
			m := theMapped()
			*name(&m) = strings.Repeat("x", length)
			wantsMap(t, fmt.Sprint(what, " of ", length), m, want)
		}
	}
	// of each two kinds of names, which must differ
	for first, one := range names {
		for second, other := range names {
			m := theMapped()
			*one(&m) = "the same"
			*other(&m) = "the same"
			differ := first+second == "inputclock" || first+second == "clockinput"
			wantsMap(t, first+" and "+second, m, !differ)
		}
	}
}

// wideMap has so many of each, of which each table reads the source ahead of it.
func wideMap(ins, regs, luts, outs, checks, clocks int) impl.Mapped {
	var m impl.Mapped
	last := ins + regs + luts - 1
	for i := range ins {
		m.Ins = append(m.Ins, fmt.Sprint("i", i))
	}
	for i := range clocks {
		m.Clocks = append(m.Clocks, fmt.Sprint("c", i))
	}
	for i := range regs {
		m.Regs = append(m.Regs, impl.MapReg{Name: fmt.Sprint("l", i), Src: last, Init: i % 2, Clock: i % clocks})
	}
	for i := range luts {
		m.Luts = append(m.Luts, impl.Lut{In: []int{ins + regs + i - 1}, Table: 1})
	}
	for i := range outs {
		m.Outs = append(m.Outs, impl.Port{Name: fmt.Sprint("y", i), Src: last})
	}
	for i := range checks {
		m.Checks = append(m.Checks, impl.Port{Name: fmt.Sprint("k", i), Src: last})
	}
	return m
}

// Each bound at it and one beyond it.
func TestMapLimits(t *testing.T) {
	for _, c := range []struct {
		ins, regs, luts, outs, checks, clocks int
		want                                  bool
	}{
		{1, 0, 1024, 1, 0, 0, true}, {1, 0, 1025, 1, 0, 0, false},
		{2048, 0, 0, 0, 0, 0, true}, {2049, 0, 0, 0, 0, 0, false},
		{0, 2048, 0, 0, 0, 1, true}, {0, 2049, 0, 0, 0, 1, false},
		{1024, 1024, 0, 0, 0, 1, true}, {1024, 1025, 0, 0, 0, 1, false}, {1025, 1024, 0, 0, 0, 1, false}, {2048, 1, 0, 0, 0, 1, false}, {1, 2048, 0, 0, 0, 1, false},
		{1, 0, 0, 2048, 0, 0, true}, {1, 0, 0, 2049, 0, 0, false},
		{1, 0, 0, 0, 2048, 0, true}, {1, 0, 0, 0, 2049, 0, false},
		{1, 0, 0, 0, 0, 8, true}, {1, 0, 0, 0, 0, 9, false},
		{1000, 1048, 1024, 2048, 2048, 8, true},
		{1000, 1048, 1025, 2048, 2048, 8, false}, {1000, 1049, 1024, 2048, 2048, 8, false}, {1000, 1048, 1024, 2049, 2048, 8, false}, {1000, 1048, 1024, 2048, 2049, 8, false}, {1000, 1048, 1024, 2048, 2048, 9, false},
	} {
		wantsMap(t, fmt.Sprint(c), wideMap(c.ins, c.regs, c.luts, c.outs, c.checks, c.clocks), c.want)
	}
	m := wideMap(1000, 1048, 1024, 2048, 2048, 8)
	d := draughtsmanOf(5)
	holdMapRun(t, m, d.steps(impl.Aig{Ins: m.Ins, Clocks: m.Clocks}, 3))
	m.Outs[2047].Src++
	wantsMap(t, "a source above all", m, false)
}

func TestMapRun(t *testing.T) {
	const swap = "i | c d | l=0<2@0 m=1<1@0 n=0<1@1 | 3=1 | x:1 y:2 z:4"
	for what, c := range map[string]struct{ text, steps, want string }{
		"nothing but steps":              {"", "/; /", "//; //"},
		"tables without In":              {"| | | =0 =1 | y:0 z:1 | k:1 q:0", "/; /", "0 1/1 0/; 0 1/1 0/"},
		"inputs themselves":              {"i j | | | | x:1 y:0 z:1 | k:0", "0 1/; 1 0/", "1 0 1/0/; 0 1 0/1/"},
		"each table of one In":           {"i | | | 0=0 0=1 0=2 0=3 | w:1 x:2 y:3 z:4", "0/; 1/", "0 1 0 1//; 0 0 1 1//"},
		"each row of two In":             {"i j | | | 0,1=1 0,1=2 0,1=4 0,1=8 | w:2 x:3 y:4 z:5", "0 0/; 1 0/; 0 1/; 1 1/", "1 0 0 0//; 0 1 0 0//; 0 0 1 0//; 0 0 0 1//"},
		"In that fall":                   {"i j | | | 1,0=2 1,0=4 | y:2 z:3", "0 0/; 1 0/; 0 1/; 1 1/", "0 0//; 0 1//; 1 0//; 0 0//"},
		"rows of three In":               {"i j k | | | 0,1,2=16 0,1,2=178 2,0,1=2 | x:3 y:4 z:5", "0 0 0/; 1 0 0/; 0 1 0/; 0 0 1/; 1 0 1/; 1 1 0/; 1 1 1/", "0 0 0//; 0 1 0//; 0 0 0//; 1 1 1//; 0 1 0//; 0 0 0//; 0 1 0//"},
		"rows of four In":                {"i j k l | | | 0,1,2,3=32768 0,1,2,3=256 3,2,1,0=2 | x:4 y:5 z:6", "1 1 1 1/; 0 0 0 1/; 1 0 0 0/; 0 0 0 0/", "1 0 0//; 0 1 1//; 0 0 0//; 0 0 0//"},
		"tables of tables":               {"i j | | | 0,1=8 2=1 3,0=8 4,2,1=150 | w:2 x:3 y:4 z:5", "0 0/; 1 0/; 0 1/; 1 1/", "0 1 0 0//; 0 1 1 1//; 0 1 0 1//; 1 0 0 0//"},
		"a register takes Src":           {"i | c | l=0<0@0 | | y:1", "1/t; 0/t; 1/t", "1//1; 0//0; 1//1"},
		"and keeps it without a tick":    {"i | c | l=0<0@0 | | y:1", "1/-; 1/t; 0/-; 0/t; 1/-", "0//0; 1//1; 1//1; 0//0; 0//0"},
		"it begins as Init":              {"i | c | l=1<0@0 m=0<0@0 | 2=1 | y:1 z:3", "0/-; 0/t; 1/t", "1 1//1 0; 0 1//0 0; 1 0//1 1"},
		"a register that turns":          {"| c | l=0<1@0 | 0=1 | y:0", "/t; /t; /-; /t", "1//1; 0//0; 0//0; 1//1"},
		"of tables without In":           {"| c | l=1<3@0 m=0<4@0 n=1<2@0 | =0 =1", "/-; /t; /t", "//1 0 1; //0 1 1; //0 1 1"},
		"registers take each other's":    {swap, "0/t-; 0/t-; 0/tt; 0/-t", "1 0 1//1 0 0; 0 1 1//0 1 0; 1 0 1//1 0 0; 1 0 0//1 0 1"},
		"a clock by itself":              {swap, "0/-t; 0/t-; 0/-t; 0/--", "0 1 1//0 1 0; 1 0 1//1 0 0; 1 0 0//1 0 1; 1 0 0//1 0 1"},
		"the row behind the tick":        {"i | c | l=0<4@0 | 0,1=8 0,1=1 0=1 | y:2 z:3 | k:4", "0/t; 1/t; 1/t; 0/-", "0 0/1/1; 0 0/0/0; 0 0/0/0; 0 1/1/0"},
		"counts, and keeps what was":     {theMap, "1 1/tt; 1 0/t-; 0 1/-t; 1 1/t-; 1 0/tt", "1 0 1/0 0/1 1 1; 0 0 1/1 0/0 0 1; 0 0 1/0 0/0 0 1; 1 0 1/0 1/1 0 1; 0 1 1/1 1/0 1 0"},
		"the last inputs are the step's": {"i | c | l=0<0@0 | 0,1=2 | y:2", "1/t; 0/-; 1/-", "0//1; 0//1; 0//1"},
		"a shift register":               {"i | c | l=0<0@0 m=0<1@0 n=0<2@0", "1/t; 0/t; 0/t; 1/t", "//1 0 0; //0 1 0; //0 0 1; //1 0 0"},
	} {
		rows, code := holdMapRun(t, mapRead(c.text), stepsOf(c.steps))
		if code != impl.OK || rowsWritten(rows) != c.want {
			t.Errorf("%s: code %d, %s, want %s", what, code, rowsWritten(rows), c.want)
		}
	}
}

func TestMapRunFaults(t *testing.T) {
	wrong := theMapped()
	wrong.Luts[0].In[1] = 0
	bad := func(change func(s *impl.Step)) []impl.Step {
		steps := stepsOf("0 1/t-; 1 0/-t; 1 1/tt")
		change(&steps[1])
		return steps
	}
	last := bad(func(s *impl.Step) {})
	last[2].Ins[1] = "x"
	for what, c := range map[string]struct {
		m     impl.Mapped
		steps []impl.Step
		want  int
	}{
		"right":                          {theMapped(), bad(func(s *impl.Step) {}), impl.OK},
		"no steps":                       {theMapped(), nil, impl.OK},
		"nothing at all":                 {impl.Mapped{}, nil, impl.OK},
		"steps of nothing":               {impl.Mapped{}, make([]impl.Step, 3), impl.OK},
		"no design":                      {wrong, stepsOf("0 1/t-"), impl.ErrBad},
		"no design and no steps":         {wrong, nil, impl.ErrBad},
		"an empty step":                  {theMapped(), make([]impl.Step, 1), impl.ErrBad},
		"an input less":                  {theMapped(), bad(func(s *impl.Step) { s.Ins = s.Ins[:1] }), impl.ErrBad},
		"an input more":                  {theMapped(), bad(func(s *impl.Step) { s.Ins = append(s.Ins, "0") }), impl.ErrBad},
		"a clock less":                   {theMapped(), bad(func(s *impl.Step) { s.Ticks = s.Ticks[:1] }), impl.ErrBad},
		"a clock more":                   {theMapped(), bad(func(s *impl.Step) { s.Ticks = append(s.Ticks, false) }), impl.ErrBad},
		"no clocks":                      {theMapped(), bad(func(s *impl.Step) { s.Ticks = nil }), impl.ErrBad},
		"no bit":                         {theMapped(), bad(func(s *impl.Step) { s.Ins[1] = "" }), impl.ErrBad},
		"two bits":                       {theMapped(), bad(func(s *impl.Step) { s.Ins[1] = "01" }), impl.ErrBad},
		"a bit that is not known":        {theMapped(), bad(func(s *impl.Step) { s.Ins[0] = "x" }), impl.ErrBad},
		"a bit that is not driven":       {theMapped(), bad(func(s *impl.Step) { s.Ins[0] = "z" }), impl.ErrBad},
		"no bit at all":                  {theMapped(), bad(func(s *impl.Step) { s.Ins[0] = "2" }), impl.ErrBad},
		"a blank":                        {theMapped(), bad(func(s *impl.Step) { s.Ins[0] = " " }), impl.ErrBad},
		"a very long text":               {theMapped(), bad(func(s *impl.Step) { s.Ins[0] = zeros(1 << 20) }), impl.ErrBad},
		"wrong in the last step":         {theMapped(), last, impl.ErrBad},
		"an input where there is none":   {impl.Mapped{}, []impl.Step{{Ins: []string{"0"}}}, impl.ErrBad},
		"a clock where there is none":    {impl.Mapped{}, []impl.Step{{Ticks: []bool{true}}}, impl.ErrBad},
		"as many steps as can be":        {theMapped(), slices.Repeat(stepsOf("0 1/t-"), impl.MaxList), impl.OK},
		"a step more":                    {theMapped(), slices.Repeat(stepsOf("0 1/t-"), impl.MaxList+1), impl.ErrLong},
		"a step more of no design":       {wrong, make([]impl.Step, impl.MaxList+1), impl.ErrLong},
		"wrong steps, one more":          {theMapped(), make([]impl.Step, impl.MaxList+1), impl.ErrLong},
		"as many, all of them wrong":     {theMapped(), make([]impl.Step, impl.MaxList), impl.ErrBad},
		"as many of nothing":             {impl.Mapped{}, make([]impl.Step, impl.MaxList), impl.OK},
		"very many steps of no design":   {wrong, make([]impl.Step, 1<<20), impl.ErrLong},
		"very many inputs of a step":     {theMapped(), []impl.Step{{Ins: make([]string, 1<<20), Ticks: make([]bool, 2)}}, impl.ErrBad},
		"no steps and very much nowhere": {impl.Mapped{Ins: make([]string, 1<<20)}, nil, impl.ErrBad},
		"very many tables":               {impl.Mapped{Luts: make([]impl.Lut, 1<<20)}, nil, impl.ErrBad},
	} {
		rows, code := holdMapRun(t, c.m, c.steps)
		if code != c.want || code != impl.OK && len(rows) != 0 || code == impl.OK && len(rows) != len(c.steps) {
			t.Errorf("%s: code %d, %d rows", what, code, len(rows))
		}
	}
}

func TestMapDepth(t *testing.T) {
	for text, want := range map[string]int{
		// no design
		"i i": -1, "i | | | 1=2": -1, "i | | | | y:1": -1, "| c | l=2<0@0": -1,
		// without tables
		"": 0, "i j | c": 0, "i | | | | y:0 | k:0": 0, "i | c | l=1<1@0 m=0<0@0 | | y:2": 0,
		// without In
		"| | | =1 | y:0": 1, "| | | =0 =1 =0": 1, "| | | =0 0=1 | y:1": 2,
		// side by side, and one behind the other
		"i j | | | 0=1 1=1 0,1=8 | x:2 y:3 z:4":      1,
		"i j | | | 0=1 2=1 3=1 | y:4":                3,
		"i j | | | 0=1 2=1 3=1 | y:3":                3,
		"i j | | | 0,1=8 0,2=8 0,2=6 3,4=8 | y:5":    3,
		"i j | | | 0=1 2,0=8 0,3=8 4,1=8 1,0=8":      4,
		"i j | | | 0=1 2=1 3,2=8 2,3=8 0,2=6 | y:0":  3,
		"i j k | | | 0,1,2=1 3,0,1,2=1 0,1,2,4=1":    3,
		"i j k | | | 0,1,2=1 0,3,1,2=1 =1 1,0,4,5=1": 3,
		// tables that nothing needs count, also where a lesser one is told
		"i | | | 0=1 | y:0": 1, "i | | | 0=1 1=1 | y:0 | k:1": 2,
		// a table that does not hang on what it reads
		"i | | | 0=1 1=0 2=3 | y:3": 3,
		// a register ends it
		"i | c | l=0<2@0 m=0<3@0 | 0=1 1=1": 1, "i | c | l=0<2@0 | 1=1 2=1 | y:3": 2, "| c | l=0<1@0 | 0=1": 1,
		theMap: 2,
	} {
		if got := holdMapDepth(t, mapRead(text)); got != want {
			t.Errorf("%s: %d, want %d", text, got, want)
		}
	}
	if got := holdMapDepth(t, wideMap(1, 1, impl.MaxLuts, 1, 1, 1)); got != impl.MaxLuts {
		t.Errorf("%d", got)
	}
	if got := holdMapDepth(t, wideMap(1, 1, impl.MaxLuts+1, 1, 1, 1)); got != -1 {
		t.Errorf("%d", got)
	}
}
