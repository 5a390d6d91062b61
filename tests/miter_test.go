package tests

import (
	"fmt"
	"slices"
	"strings"
	"testing"

	"loop.example/g00031/impl"
)

// holdMiter holds two graphs side by side against what is told of them.
func holdMiter(t *testing.T, a, b impl.Aig) (impl.Aig, int) {
	t.Helper()
	got, code := impl.Miter(a, b)
	want, wantCode := miterTold(a, b)
	if code != wantCode || aigShown(got) != aigShown(want) {
		t.Fatalf("%s\n%s: code %d, want %d\n%s, want\n%s", aigWritten(a), aigWritten(b), code, wantCode, aigShown(got), aigShown(want))
	}
	if code == impl.OK && (!impl.AigOK(got) || len(got.Outs) != 0 || len(got.Checks) != 1 || got.Checks[0].Name != "same") {
		t.Fatalf("%s\n%s: %s", aigWritten(a), aigWritten(b), aigShown(got))
	}
	return got, code
}

// wantsMiter: the graphs have that code, and nothing else where it is not OK.
func wantsMiter(t *testing.T, what string, a, b impl.Aig, want int) impl.Aig {
	t.Helper()
	got, code := holdMiter(t, a, b)
	if code != want || code != impl.OK && aigShown(got) != aigShown(impl.Aig{}) {
		t.Errorf("%s: code %d, want %d", what, code, want)
	}
	return got
}

func TestMiter(t *testing.T) {
	const and = "i j | | | 2,4 | o:6"
	for what, c := range map[string]struct{ a, b, want string }{
		"nothing":                       {"", "", " |  |  |  |  | same:1"},
		"no outs and no checks":         {"i j | c", "i j | c", "i j | c |  |  |  | same:1"},
		"latches alone":                 {"i | c | l=0<2@0", "i | c | m=1<3@0 l=0<4@0", "i | c | a.l=0<2@0 b.m=1<3@0 b.l=0<6@0 |  |  | same:1"},
		"one graph twice":               {and, and, "i j |  |  |  |  | same:1"},
		"the greater one first":         {and, "i j | | | 4,2 | o:6", "i j |  |  |  |  | same:1"},
		"opposites":                     {"i | | | | y:2", "i | | | | y:3", "i |  |  |  |  | same:0"},
		"opposites of an and":           {and, "i j | | | 2,4 | o:7", "i j |  |  |  |  | same:0"},
		"an input and false":            {"i | | | | y:2", "i | | | | y:0", "i |  |  |  |  | same:3"},
		"true and an input":             {"i | | | | y:1", "i | | | | y:2", "i |  |  |  |  | same:2"},
		"two inputs":                    {"i j | | | | y:2", "i j | | | | y:4", "i j |  |  | 2,5 3,4 7,9 |  | same:10"},
		"the other way round":           {"i j | | | | y:4", "i j | | | | y:2", "i j |  |  | 3,4 2,5 7,9 |  | same:10"},
		"a check":                       {"i j | | | | | y:2", "i j | | | | | y:5", "i j |  |  | 2,4 3,5 7,9 |  | same:10"},
		"all of a's, then all of b's":   {"i j k | | | 2,4 6,8 | y:10", "i j k | | | 4,6 2,8 | y:10", "i j k |  |  | 2,4 6,8 4,6 2,12 10,15 11,14 17,19 |  | same:20"},
		"each xor, then the and":        {"i j k | | | | x:2 y:2 z:4", "i j k | | | | x:4 y:6 z:6", "i j k |  |  | 2,5 3,4 9,11 2,7 3,6 15,17 12,18 4,7 5,6 23,25 20,26 |  | same:28"},
		"outs ahead of checks":          {"i j k | | | | y:2 | k:4", "i j k | | | | y:4 | k:6", "i j k |  |  | 2,5 3,4 9,11 4,7 5,6 15,17 12,18 |  | same:20"},
		"one that is never the same":    {"i j | | | | x:2 y:0 z:2", "i j | | | | x:4 y:1 z:4", "i j |  |  |  |  | same:0"},
		"one that is always the same":   {"i j | | | | x:4 y:2", "i j | | | | x:4 y:4", "i j |  |  | 2,5 3,4 7,9 |  | same:10"},
		"an out and a check of a name":  {"i | | | | y:2 | y:0", "i | | | | y:2 | y:3", "i |  |  |  |  | same:2"},
		"latches":                       {"i | c | l=0<2@0 | | y:4", "i | c | m=1<5@0 n=0<2@0 | | y:6", "i | c | a.l=0<2@0 b.m=1<7@0 b.n=0<2@0 | 4,9 5,8 11,13 |  | same:14"},
		"latches of one name":           {"i | c | l=0<2@0 | | y:4", "i | c | l=0<2@0 | | y:4", "i | c | a.l=0<2@0 b.l=0<2@0 | 4,7 5,6 9,11 |  | same:12"},
		"none in a":                     {"i | c | | | y:2", "i | c | l=1<4@0 | | y:4", "i | c | b.l=1<4@0 | 2,5 3,4 7,9 |  | same:10"},
		"none in b":                     {"i | c | l=1<4@0 | | y:4", "i | c | | | y:2", "i | c | a.l=1<4@0 | 3,4 2,5 7,9 |  | same:10"},
		"two clocks stay":               {"i | c d | l=0<2@1 | | y:4", "i | c d | l=0<2@0 | | y:4", "i | c d | a.l=0<2@1 b.l=0<2@0 | 4,7 5,6 9,11 |  | same:12"},
		"Nexts need ands":               {"i j | c | l=0<8@0 | 2,4 3,5", "i j | c | m=0<11@0 | 2,4 3,5", "i j | c | a.l=0<10@0 b.m=0<13@0 | 2,4 3,5 |  | same:1"},
		"what nothing needs":            {"i j | c | l=0<2@0 | 2,4 3,5", "i j | c | | 2,5", "i j | c | a.l=0<2@0 |  |  | same:1"},
		"ands that are there already":   {"i j | | | 2,4 3,5 | y:6 z:8", "i j | | | 5,3 4,2 | y:8 z:6", "i j |  |  |  |  | same:1"},
		"ands of latches of one place":  {"i | c | l=0<2@0 | 2,4 | y:6", "i | c | l=0<2@0 | 2,4 | y:6", "i | c | a.l=0<2@0 b.l=0<2@0 | 2,4 2,6 8,11 9,10 13,15 |  | same:16"},
		"ands that are none":            {"i j | | | 2,2 2,3 6,4 | y:10", "i j | | | 2,4 | y:6", "i j |  |  |  |  | same:1"},
		"a's ands are not those of b's": {"i j | c | l=0<2@0 | 2,6 | y:8", "i j | c | | 2,4 | y:6", "i j | c | a.l=0<2@0 | 2,6 2,4 8,11 9,10 13,15 |  | same:16"},
	} {
		got, code := holdMiter(t, aigRead(c.a), aigRead(c.b))
		if code != impl.OK || aigWritten(got) != c.want {
			t.Errorf("%s: code %d, %s, want %s", what, code, aigWritten(got), c.want)
		}
	}
}

// theFace has two of each that must have the same names.
const theFace = "i j | c d | l=0<2@0 | 2,4 | x:2 y:8 | k:3 q:8"

func TestMiterFaults(t *testing.T) {
	right := aigRead(theFace)
	for what, wrong := range notGraphs() {
		wantsMiter(t, what+" ahead", wrong, right, impl.ErrBad)
		wantsMiter(t, what+" behind", right, wrong, impl.ErrBad)
		wantsMiter(t, what+" twice", wrong, wrong, impl.ErrBad)
	}
	for what, c := range map[string]struct {
		change func(a *impl.Aig)
		want   int
	}{
		"nothing":                     {func(a *impl.Aig) {}, impl.OK},
		"another input":               {func(a *impl.Aig) { a.Ins[1] = "k" }, impl.ErrKind},
		"the first input another":     {func(a *impl.Aig) { a.Ins[0] = "I" }, impl.ErrKind},
		"inputs in another order":     {func(a *impl.Aig) { a.Ins[0], a.Ins[1] = a.Ins[1], a.Ins[0] }, impl.ErrKind},
		"an input less":               {func(a *impl.Aig) { *a = aigRead("i | c d | l=0<2@0 | 2,4 | x:2 y:6 | k:3 q:6") }, impl.ErrKind},
		"an input more":               {func(a *impl.Aig) { a.Ins = append(a.Ins, "m") }, impl.ErrKind},
		"a clock for an input":        {func(a *impl.Aig) { a.Ins, a.Clocks = []string{"i", "j", "c"}, []string{"d"} }, impl.ErrKind},
		"another clock":               {func(a *impl.Aig) { a.Clocks[0] = "e" }, impl.ErrKind},
		"clocks in another order":     {func(a *impl.Aig) { a.Clocks[0], a.Clocks[1] = "d", "c" }, impl.ErrKind},
		"a clock less":                {func(a *impl.Aig) { a.Clocks = a.Clocks[:1] }, impl.ErrKind},
		"a clock more":                {func(a *impl.Aig) { a.Clocks = append(a.Clocks, "e") }, impl.ErrKind},
		"another out":                 {func(a *impl.Aig) { a.Outs[1].Name = "z" }, impl.ErrKind},
		"outs in another order":       {func(a *impl.Aig) { a.Outs[0], a.Outs[1] = a.Outs[1], a.Outs[0] }, impl.ErrKind},
		"an out less":                 {func(a *impl.Aig) { a.Outs = a.Outs[:1] }, impl.ErrKind},
		"an out more":                 {func(a *impl.Aig) { a.Outs = append(a.Outs, impl.Pin{Name: "z"}) }, impl.ErrKind},
		"no outs":                     {func(a *impl.Aig) { a.Outs = nil }, impl.ErrKind},
		"another check":               {func(a *impl.Aig) { a.Checks[0].Name = "z" }, impl.ErrKind},
		"checks in another order":     {func(a *impl.Aig) { a.Checks[0], a.Checks[1] = a.Checks[1], a.Checks[0] }, impl.ErrKind},
		"a check less":                {func(a *impl.Aig) { a.Checks = a.Checks[1:] }, impl.ErrKind},
		"a check more":                {func(a *impl.Aig) { a.Checks = append(a.Checks, impl.Pin{Name: "z"}) }, impl.ErrKind},
		"no checks":                   {func(a *impl.Aig) { a.Checks = nil }, impl.ErrKind},
		"outs and checks exchanged":   {func(a *impl.Aig) { a.Outs, a.Checks = a.Checks, a.Outs }, impl.ErrKind},
		"a check that is an out":      {func(a *impl.Aig) { a.Outs, a.Checks = append(a.Outs, a.Checks[0]), a.Checks[1:] }, impl.ErrKind},
		"other literals":              {func(a *impl.Aig) { a.Outs[0].Lit, a.Checks[1].Lit = 1, 0 }, impl.OK},
		"another latch":               {func(a *impl.Aig) { a.Latches[0].Name = "m" }, impl.OK},
		"another clock of a latch":    {func(a *impl.Aig) { a.Latches[0].Clock = 1 }, impl.OK},
		"another Init":                {func(a *impl.Aig) { a.Latches[0].Init = 1 }, impl.OK},
		"another and":                 {func(a *impl.Aig) { a.Ands[0].A = 5 }, impl.OK},
		"an and more":                 {func(a *impl.Aig) { a.Ands = append(a.Ands, impl.And{A: 8, B: 3}) }, impl.OK},
		"latches more":                {func(a *impl.Aig) { *a = aigRead("i j | c d | l=0<2@0 m=1<4@1 | | x:2 y:8 | k:3 q:8") }, impl.OK},
		"no latches":                  {func(a *impl.Aig) { *a = aigRead("i j | c d | | | x:2 y:4 | k:3 q:5") }, impl.OK},
		"an input's name and no ands": {func(a *impl.Aig) { a.Ins[0], a.Ands, a.Outs[1].Lit, a.Checks[1].Lit = "z", nil, 0, 0 }, impl.ErrKind},
	} {
		a := aigRead(theFace)
		c.change(&a)
		wantsMiter(t, what+" behind", right, a, c.want)
		wantsMiter(t, what+" ahead", a, right, c.want)
		wantsMiter(t, what+" twice", a, a, impl.OK)
	}
}

// plainRow has so many ands as rowOfAnds, but each reads the one ahead of it as it is.
func plainRow(ands int, told bool) impl.Aig {
	a := rowOfAnds(ands, 0, told)
	for i := range a.Ands {
		a.Ands[i].A--
	}
	return a
}

func TestMiterMany(t *testing.T) {
	for _, c := range []struct{ ins, first, second, want int }{
		{2048, 0, 0, impl.OK}, {48, 1000, 1000, impl.OK}, {49, 1000, 1000, impl.ErrMany}, {48, 1001, 1000, impl.ErrMany}, {48, 1000, 1001, impl.ErrMany}, {0, 2048, 0, impl.OK}, {0, 0, 2048, impl.OK}, {0, 2048, 1, impl.ErrMany}, {0, 1, 2048, impl.ErrMany}, {0, 2048, 2048, impl.ErrMany}, {2047, 1, 0, impl.OK}, {2047, 1, 1, impl.ErrMany}, {1024, 1024, 1024, impl.ErrMany},
	} {
		a, b := wideAig(c.ins, c.first, 0, 0, 0, 1), wideAig(c.ins, c.second, 0, 0, 0, 1)
		got := wantsMiter(t, fmt.Sprint(c), a, b, c.want)
		if c.want == impl.OK && (len(got.Ins) != c.ins || len(got.Latches) != c.first+c.second) {
			t.Errorf("%v: %d inputs, %d latches", c, len(got.Ins), len(got.Latches))
		}
	}
	// all ands count that are made, the three of an xor and that of two, too
	for _, c := range []struct {
		first, second int
		told          bool
		want          int
	}{
		{4096, 4096, false, impl.OK}, {4097, 4096, false, impl.ErrMany}, {4096, 4097, false, impl.ErrMany}, {8192, 0, false, impl.OK}, {0, 8192, false, impl.OK}, {8192, 1, false, impl.OK}, {1, 8192, false, impl.ErrMany}, {8192, 8192, false, impl.ErrMany},
		{4096, 4093, true, impl.OK}, {4096, 4094, true, impl.ErrMany}, {4095, 4094, true, impl.OK}, {8187, 2, true, impl.OK}, {8188, 2, true, impl.ErrMany},
	} {
		a, b := rowOfAnds(c.first, 0, c.told), plainRow(c.second, c.told)
		if c.second == 1 {
			// of the same literals
			b.Ands[0].A++
		}
		wantsMiter(t, fmt.Sprint(c), a, b, c.want)
	}
	full := rowOfAnds(8192, 0, true)
	if got := wantsMiter(t, "a full one twice", full, full, impl.OK); aigWritten(got) != strings.Join(full.Ins, " ")+" |  |  |  |  | same:1" {
		t.Error(aigWritten(got))
	}
	for checks, want := range map[int]int{2048: impl.OK, 2049: impl.ErrBad} {
		a := wideAig(1, 0, 0, checks, checks, 0)
		wantsMiter(t, fmt.Sprint(checks, " outs and checks"), a, a, want)
	}
	// an out that may be unlike makes four ands, the first one three; a check likewise
	for outs, want := range map[int]int{2047: impl.OK, 2048: impl.OK} {
		a, b := impl.Aig{Ins: wideAig(2048, 0, 0, 0, 0, 0).Ins}, impl.Aig{Ins: wideAig(2048, 0, 0, 0, 0, 0).Ins}
		for i := range outs {
			a.Outs = append(a.Outs, impl.Pin{Name: fmt.Sprint("y", i), Lit: 2 + 2*i})
			b.Outs = append(b.Outs, impl.Pin{Name: fmt.Sprint("y", i), Lit: 2 + 2*((i+1)%2048)})
		}
		got := wantsMiter(t, fmt.Sprint(outs, " outs"), a, b, want)
		if len(got.Ands) != 4*outs-1 {
			t.Errorf("%d outs: %d ands", outs, len(got.Ands))
		}
		a.Checks, b.Checks = pinsRead("k:2"), pinsRead("k:6")
		wantsMiter(t, fmt.Sprint(outs, " outs and a check"), a, b, map[int]int{2047: impl.OK, 2048: impl.ErrMany}[outs])
	}
}

func TestMiterNames(t *testing.T) {
	for size := 996; size <= 1001; size++ {
		name := strings.Repeat("n", size)
		for what, change := range map[string]func(a *impl.Aig){
			"an input": func(a *impl.Aig) { a.Ins[0] = name },
			"a clock":  func(a *impl.Aig) { a.Clocks[1] = name },
			"an out":   func(a *impl.Aig) { a.Outs[0].Name = name },
			"a check":  func(a *impl.Aig) { a.Checks[1].Name = name },
		} {
			a := aigRead(theFace)
			change(&a)
			want := impl.OK
			if size > 1000 {
				want = impl.ErrBad
			}
			wantsMiter(t, fmt.Sprint(what, " of ", size), a, a, want)
		}
		a := aigRead(theFace)
		a.Latches[0].Name = name
		want := impl.OK
		switch {
		case size > 1000:
			want = impl.ErrBad
		case size > 998:
			want = impl.ErrLong
		}
		wantsMiter(t, fmt.Sprint("a latch of ", size), a, aigRead(theFace), want)
		wantsMiter(t, fmt.Sprint("a latch behind of ", size), aigRead(theFace), a, want)
	}
	// names that are put together are never the same
	a := aigRead("i | c | a.l=0<2@0 b.l=0<2@0 l=0<2@0 .l=0<2@0 | | y:4")
	b := aigRead("i | c | l=0<2@0 a.l=0<2@0 b.l=0<2@0 .l=0<2@0 | | y:4")
	wantsMiter(t, "names with a. and b.", a, b, impl.OK)
	wantsMiter(t, "names with a. and b. twice", a, a, impl.OK)
	same := aigRead("same | same2 | same=0<2@0 | | same:4 | same:2")
	if got := wantsMiter(t, "the check's name", same, same, impl.OK); got.Latches[1].Name != "b.same" || got.Ins[0] != "same" {
		t.Error(aigWritten(got))
	}
}

// Where two codes are due the first one counts.
func TestMiterOrderOfFaults(t *testing.T) {
	wide, long := wideAig(1000, 600, 0, 0, 0, 1), wideAig(1000, 600, 0, 0, 0, 1)
	long.Latches[0].Name = strings.Repeat("n", 1000)
	other := wideAig(1000, 600, 0, 0, 0, 1)
	other.Clocks[0] = "d"
	wrong := wideAig(1000, 600, 0, 0, 0, 1)
	wrong.Latches[0].Init, wrong.Clocks[0] = 2, "d"
	small := wideAig(1000, 1, 0, 0, 0, 1)
	for what, c := range map[string]struct {
		a, b impl.Aig
		want int
	}{
		"bits":               {wide, wide, impl.ErrMany},
		"bits and a name":    {wide, long, impl.ErrMany},
		"a name":             {small, long, impl.ErrLong},
		"a name of a":        {long, small, impl.ErrLong},
		"clocks and bits":    {wide, other, impl.ErrKind},
		"clocks and a name":  {long, other, impl.ErrKind},
		"no graph, clocks":   {other, wrong, impl.ErrBad},
		"no graph, and bits": {wide, wrong, impl.ErrBad},
		"no graph and a name": {
			wrong, long, impl.ErrBad,
		},
	} {
		wantsMiter(t, what, c.a, c.b, c.want)
	}
	ands, row := rowOfAnds(8190, 1, true), plainRow(8190, true)
	ands.Latches[0].Name, row.Clocks = strings.Repeat("n", 1000), ands.Clocks
	wantsMiter(t, "ands and a name", ands, row, impl.ErrMany)
	ands.Ands, row.Ands = ands.Ands[:100], row.Ands[:100]
	ands.Latches[0].Next, ands.Outs[0].Lit, row.Outs[0].Lit = 2, 2, 2
	wantsMiter(t, "a name of few ands", ands, row, impl.ErrLong)
}

// pair draws two graphs with the same names about them: those that tell the same by what was made of one, and others.
func (d *draughtsman) pair(ins, latches, ands int) (impl.Aig, impl.Aig) {
	a := d.steady(ins, latches, ands)
	a.Checks = d.pins(1 + ins + latches + ands)
	for i := range a.Checks {
		a.Checks[i].Name = fmt.Sprint("k", i)
	}
	var b impl.Aig
	switch d.below(7) {
	case 0:
		b, _ = impl.Rewrite(a)
	case 1:
		b, _ = impl.Balance(a)
	case 2:
		b, _ = impl.Rewrite(a)
		b, _ = impl.Balance(d.doubled(b))
	case 3:
		b = d.doubled(a)
	case 4:
		b = d.steady(ins, d.below(latches+1), d.below(ands+1))
		lits := 2 * (1 + len(b.Ins) + len(b.Latches) + len(b.Ands))
		b.Clocks, b.Outs, b.Checks = slices.Clone(a.Clocks), slices.Clone(a.Outs), slices.Clone(a.Checks)
		for _, pins := range [][]impl.Pin{b.Outs, b.Checks} {
			for i := range pins {
				pins[i].Lit %= lits
			}
		}
	default:
		b = d.variant(a)
	}
	if d.below(2) == 0 {
		return b, a
	}
	return a, b
}

// Two graphs side by side have the latches of both, and tell whether both tell the same.
func TestMiterRows(t *testing.T) {
	counts := map[string]int{}
	for seed := range uint64(900) {
		d := draughtsmanOf(seed + 10000)
		a, b := d.pair(d.below(4), d.below(4), d.below(20))
		if seed%3 == 0 && len(a.Clocks) == 1 {
			// with two clocks, too
			a.Clocks, b.Clocks = append(slices.Clone(a.Clocks), "d"), append(slices.Clone(b.Clocks), "d")
			for _, latches := range [][]impl.Latch{a.Latches, b.Latches} {
				for i := range latches {
					latches[i].Clock = d.below(2)
				}
			}
		}
		both, code := holdMiter(t, a, b)
		if code != impl.OK {
			t.Fatalf("%s\n%s: code %d", aigWritten(a), aigWritten(b), code)
		}
		steps := d.steps(a, 12)
		first, _ := impl.AigRun(a, steps)
		second, _ := impl.AigRun(b, steps)
		rows, code := impl.AigRun(both, steps)
		if code != impl.OK {
			t.Fatalf("%s: code %d", aigWritten(both), code)
		}
		for i, row := range rows {
			same := slices.Equal(first[i].Outs, second[i].Outs) && slices.Equal(first[i].Checks, second[i].Checks)
			if (row.Checks[0] == "1") != same || !slices.Equal(row.Regs, slices.Concat(first[i].Regs, second[i].Regs)) {
				t.Fatalf("%s\n%s\n%s: step %d: %v, %v, but %v", aigWritten(a), aigWritten(b), aigWritten(both), i, first[i], second[i], row)
			}
			counts[fmt.Sprint("same ", same)]++
		}
		counts["two clocks"] += numberIf(len(a.Clocks) == 2)
		counts["unlike latches"] += numberIf(len(a.Latches) != len(b.Latches))
	}
	wantsOften(t, counts, 100, []string{"same true", "same false", "two clocks", "unlike latches"})
}

// holdEquiv holds a proof of two graphs against what is told of it; CheckProof takes it of both side by side, unless it is open.
func holdEquiv(t *testing.T, a, b impl.Aig, steps, work int) (impl.Proof, int) {
	t.Helper()
	p, code := impl.Equiv(a, b, steps, work)
	want, wantCode := equivTold(a, b, steps, work)
	if code != wantCode || proofShown(p) != proofShown(want) {
		t.Fatalf("%s\n%s: %d steps, work %d: code %d, want %d\n%s, want\n%s", aigWritten(a), aigWritten(b), steps, work, code, wantCode, proofWritten(p), proofWritten(want))
	}
	if code == impl.OK {
		both, _ := impl.Miter(a, b)
		if impl.CheckProof(both, p) != (p.Kind != impl.Open) {
			t.Fatalf("%s: %s: taken %v", aigWritten(both), proofWritten(p), p.Kind == impl.Open)
		}
	}
	return p, code
}

func TestEquiv(t *testing.T) {
	const (
		delay = "i | c | l=0<2@0 m=0<4@0 | | y:6"
		turns = "| c | l=0<3@0 | | y:2"
	)
	for what, c := range map[string]struct {
		a, b  string
		steps int
		want  string
	}{
		"nothing":                       {"", "", 1, "proved 1 [] [] {. / .}"},
		"no outs":                       {"i | c | l=0<2@0", "i | c | l=1<3@0", 2, "proved 2 [] [] {. / . / .}"},
		"one twice":                     {delay, delay, 2, "proved 2 [] [] {. / . / .}"},
		"and in another order":          {"i j k | | | 2,4 6,8 | y:10", "i j k | | | 4,6 2,8 | y:10", 1, "proved 1"},
		"unlike at once":                {"i j | | | 2,4 | y:6", "i j | | | 2,5 | y:6", 3, "fails 1 [10] [] {}"},
		"unlike in a check":             {"i j | | | 2,4 | y:2 | k:6", "i j | | | 2,4 | y:2 | k:2", 3, "fails 1 [10] [] {}"},
		"an Init that is gone":          {"i | c | l=0<2@0 | | y:4", "i | c | l=1<2@0 | | y:4", 1, "proved 1 [] [] {. / .}"},
		"an Init that is told":          {delay, "i | c | l=1<2@0 m=0<4@0 | | y:6", 3, "fails 1 [0] [] {}"},
		"one later":                     {delay, "i | c | l=0<2@0 m=0<4@0 n=0<6@0 | | y:8", 3, "fails 2 [1 0] [] {}"},
		"two later":                     {"i | c | l=0<2@0 m=0<4@0 n=0<6@0 | | y:8", "i | c | l=0<2@0 m=0<4@0 n=0<6@0 o=0<8@0 | | y:10", 5, "fails 3 [1 0 0] [] {}"},
		"not so soon":                   {"i | c | l=0<2@0 m=0<4@0 n=0<6@0 | | y:8", "i | c | l=0<2@0 m=0<4@0 n=0<6@0 o=0<8@0 | | y:10", 2, "open 2"},
		"latches in another order":      {delay, "i | c | m=0<6@0 l=0<2@0 | | y:4", 2, "proved 2 [] [] {. / . / .}"},
		"turned, begun as the opposite": {turns, "| c | l=1<3@0 | | y:3", 1, "proved 1"},
		"turned, begun as the same":     {turns, "| c | l=0<3@0 | | y:3", 1, "fails 1 [] [] {}"},
		"a latch and none":              {"i | c | l=0<2@0 | | y:4", "i | c | | | y:2", 1, "proved 1 [] [] {. / .}"},
		"a latch that stays 0 and none": {"i | c | l=0<4@0 | 2,5 | y:6", "i | c | | | y:2", 1, "open 1 [0 1] [1] {}"},
		"one with a check, then proved": {"i | c | l=0<4@0 | 2,5 | y:6 z:4", "i | c | | | y:2 z:0", 1, "proved 1"},
	} {
		p, code := holdEquiv(t, aigRead(c.a), aigRead(c.b), c.steps, 4000)
		if code != impl.OK || !strings.HasPrefix(proofWritten(p), c.want) {
			t.Errorf("%s: code %d, %s, want %s", what, code, proofWritten(p), c.want)
		}
	}
}

// The code of Miter counts ahead of those of Induction.
func TestEquivFaults(t *testing.T) {
	const low, high = -1 << 63, 1<<63 - 1
	wants := func(what string, a, b impl.Aig, steps, work, want int) {
		t.Helper()
		p, code := holdEquiv(t, a, b, steps, work)
		if code != want || code != impl.OK && proofShown(p) != proofShown(impl.Proof{}) {
			t.Errorf("%s: %d steps, work %d: code %d, want %d: %s", what, steps, work, code, want, proofWritten(p))
		}
	}
	toggle, other := aigRead(theToggle), aigRead(theToggle)
	other.Checks[0].Name = "q"
	wide := wideAig(1000, 600, 0, 0, 0, 1)
	long := aigRead(theToggle)
	long.Latches[0].Name = strings.Repeat("n", 999)
	clocks := aigRead(theFace)
	for _, steps := range []int{1, 3, 0, 16, 17, low, high} {
		for _, work := range []int{1, 4000, 0, 4001, low, high} {
			for what, wrong := range notGraphs() {
				wants(what+" ahead", wrong, toggle, steps, work, impl.ErrBad)
				wants(what+" behind", toggle, wrong, steps, work, impl.ErrBad)
			}
			wants("unlike checks", toggle, other, steps, work, impl.ErrKind)
			wants("too many latches", wide, wide, steps, work, impl.ErrMany)
			wants("a long latch", toggle, long, steps, work, impl.ErrLong)
			// that of Unroll
			wants("two clocks", clocks, clocks, steps, work, impl.ErrKind)
		}
	}
	nothing := impl.Aig{}
	for steps, want := range map[int]int{1: impl.OK, 15: impl.OK, 16: impl.ErrRange, 0: impl.ErrRange, 17: impl.ErrRange, low: impl.ErrRange, high: impl.ErrRange} {
		wants("nothing", nothing, nothing, steps, 10, want)
		for _, work := range []int{0, 4001, low, high} {
			wants("nothing", nothing, nothing, steps, work, impl.ErrRange)
		}
	}
	// no checks at all is not ErrMissing, as there is one then
	wants("no checks", aigRead("i | | | | y:2"), aigRead("i | | | | y:2"), 2, 10, impl.OK)
	// what differs at the first step is told, also of as many steps as can be
	wants("unlike", aigRead("i | | | | y:2"), aigRead("i | | | | y:3"), 16, 10, impl.OK)
	// a latch's name that is too long with both of what is put to it
	for size, want := range map[int]int{996: impl.OK, 997: impl.ErrLong, 998: impl.ErrLong, 999: impl.ErrLong} {
		a := aigRead(theToggle)
		a.Latches[0].Name = strings.Repeat("n", size)
		wants(fmt.Sprint("a latch of ", size), a, toggle, 1, 100, want)
	}
	// too many variables
	for ins, want := range map[int]int{1023: impl.OK, 1024: impl.ErrMany} {
		a := wideAig(ins, 0, 0, 1, 0, 0)
		wants(fmt.Sprint(ins, " inputs"), a, a, 1, 10, want)
	}
	order := [2]impl.Aig{aigRead("i j k | | | 2,4 6,8 | y:10"), aigRead("i j k | | | 4,6 2,8 | y:10")}
	needed := 0
	for work := 1; work <= 4000 && needed == 0; work++ {
		if _, code := impl.Equiv(order[0], order[1], 1, work); code == impl.OK {
			needed = work
		}
	}
	wants("searched for", order[0], order[1], 1, needed, impl.OK)
	wants("searched for", order[0], order[1], 1, needed-1, impl.ErrWork)
	if needed < 3 {
		t.Errorf("%d searches", needed)
	}
}
