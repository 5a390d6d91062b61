package tests

import (
	"fmt"
	"strings"
	"testing"

	"loop.example/g00031/impl"
)

func TestProveConstants(t *testing.T) {
	if got := fmt.Sprint(impl.MaxUnroll, impl.Holds, impl.Fails, impl.Proved, impl.Open); got != "16 1 2 3 4" {
		t.Error(got)
	}
}

// holdUnroll holds an unrolled graph against what is told of it.
func holdUnroll(t *testing.T, a impl.Aig, steps int, free bool) (impl.Aig, int) {
	t.Helper()
	got, code := impl.Unroll(a, steps, free)
	want, wantCode := unrollTold(a, steps, free)
	if code != wantCode || aigShown(got) != aigShown(want) {
		t.Fatalf("%s: %d steps, free %v: code %d, want %d\n%s, want\n%s", aigWritten(a), steps, free, code, wantCode, aigShown(got), aigShown(want))
	}
	if code == impl.OK && (!impl.AigOK(got) || len(got.Clocks) != 0 || len(got.Latches) != 0) {
		t.Fatalf("%s: %d steps, free %v: %s", aigWritten(a), steps, free, aigShown(got))
	}
	return got, code
}

// wantsUnroll: the graph has that code, and nothing else where it is not OK.
func wantsUnroll(t *testing.T, what string, a impl.Aig, steps int, free bool, want int) impl.Aig {
	t.Helper()
	got, code := holdUnroll(t, a, steps, free)
	if code != want || code != impl.OK && aigShown(got) != aigShown(impl.Aig{}) {
		t.Errorf("%s: %d steps, free %v: code %d, want %d", what, steps, free, code, want)
	}
	return got
}

// theToggle has a latch that stays 1 as soon as its input was 1; a check that it never is.
const theToggle = "e | c | l=0<7@0 | 3,5 | o:4 | k:5"

func TestUnroll(t *testing.T) {
	const (
		swap  = "i | c | l=0<6@0 m=1<4@0 n=0<2@0 | | x:4 y:6 z:8 w:2 | k:5"
		twice = "i j | c | l=0<8@0 | 2,6 4,7 | y:8 z:10 | k:9"
	)
	for what, c := range map[string]struct {
		text  string
		steps int
		free  bool
		want  string
	}{
		"nothing":                       {"", 1, false, " |  |  |  |  | "},
		"nothing, free":                 {"", 16, true, " |  |  |  |  | "},
		"inputs that nothing reads":     {"i j", 3, false, "i@1 j@1 i@2 j@2 i@3 j@3 |  |  |  |  | "},
		"a clock is left out":           {"i | c", 1, true, "i@1 |  |  |  |  | "},
		"latches that nothing reads":    {"i | c | l=0<2@0 m=1<2@0", 2, true, "l@0 m@0 i@1 i@2 |  |  |  |  | "},
		"and not free":                  {"i | c | l=0<2@0 m=1<2@0", 2, false, "i@1 i@2 |  |  |  |  | "},
		"ten steps and more":            {"i | | | | y:2", 11, false, "i@1 i@2 i@3 i@4 i@5 i@6 i@7 i@8 i@9 i@10 i@11 |  |  |  | y@1:2 y@2:4 y@3:6 y@4:8 y@5:10 y@6:12 y@7:14 y@8:16 y@9:18 y@10:20 y@11:22 | "},
		"constants":                     {"| | | | y:0 z:1 | k:1 q:0", 2, false, " |  |  |  | y@1:0 z@1:1 y@2:0 z@2:1 | k@1:1 q@1:0 k@2:1 q@2:0"},
		"outs and checks of a step":     {"i j | | | | y:2 z:5 | k:3 q:4", 2, true, "i@1 j@1 i@2 j@2 |  |  |  | y@1:2 z@1:5 y@2:6 z@2:9 | k@1:3 q@1:4 k@2:7 q@2:8"},
		"ands of each step":             {"i j | | | 4,3 | y:6", 2, false, "i@1 j@1 i@2 j@2 |  |  | 3,4 7,8 | y@1:10 y@2:12 | "},
		"an and that is there already":  {"i j | | | 2,4 4,2 6,8 | y:8 z:10", 1, false, "i@1 j@1 |  |  | 2,4 | y@1:6 z@1:6 | "},
		"ands that are none":            {"i j | | | 2,2 2,3 1,4 0,4 3,3 | y:6 z:8 w:10 v:12 u:15", 1, false, "i@1 j@1 |  |  |  | y@1:2 z@1:0 w@1:4 v@1:0 u@1:2 | "},
		"what no end needs is left out": {"i j | | | 2,4 3,5 2,5 | y:8", 1, false, "i@1 j@1 |  |  | 3,5 | y@1:6 | "},
		"a Next alone is no end":        {"i j | c | l=0<8@0 | 2,4 | y:2", 1, true, "l@0 i@1 j@1 |  |  |  | y@1:4 | "},
		"the row is behind the tick":    {"i | c | l=0<2@0 | | y:4", 2, false, "i@1 i@2 |  |  |  | y@1:2 y@2:4 | "},
		"and free the same":             {"i | c | l=0<2@0 | | y:4", 2, true, "l@0 i@1 i@2 |  |  |  | y@1:4 y@2:6 | "},
		"latches take each other's":     {swap, 3, false, "i@1 i@2 i@3 |  |  |  | x@1:1 y@1:0 z@1:2 w@1:2 x@2:0 y@2:1 z@2:4 w@2:4 x@3:1 y@3:0 z@3:6 w@3:6 | k@1:0 k@2:1 k@3:0"},
		"and free":                      {swap, 2, true, "l@0 m@0 n@0 i@1 i@2 |  |  |  | x@1:4 y@1:2 z@1:8 w@1:8 x@2:2 y@2:4 z@2:10 w@2:10 | k@1:5 k@2:3"},
		"a latch that turns":            {"| c | l=0<3@0 | | y:2", 3, false, " |  |  |  | y@1:1 y@2:0 y@3:1 | "},
		"and begins as 1":               {"| c | l=1<3@0 | | y:2", 3, false, " |  |  |  | y@1:0 y@2:1 y@3:0 | "},
		"and free, whatever its Init":   {"| c | l=1<3@0 | | y:2", 3, true, "l@0 |  |  |  | y@1:3 y@2:2 y@3:3 | "},
		"a latch that keeps":            {"| c | l=1<2@0 m=0<4@0 | | y:2 z:4", 2, false, " |  |  |  | y@1:1 z@1:0 y@2:1 z@2:0 | "},
		"the toggle":                    {theToggle, 2, false, "e@1 e@2 |  |  | 3,5 | o@1:2 o@2:7 | k@1:3 k@2:6"},
		"the toggle, free":              {theToggle, 2, true, "l@0 e@1 e@2 |  |  | 3,5 7,8 | o@1:9 o@2:11 | k@1:8 k@2:10"},
		"the toggle, one step, free":    {theToggle, 1, true, "l@0 e@1 |  |  | 3,5 | o@1:7 | k@1:6"},
		"the toggle, begun as 1":        {"e | c | l=1<7@0 | 3,5 | o:4 | k:5", 2, false, "e@1 e@2 |  |  |  | o@1:1 o@2:1 | k@1:0 k@2:0"},
		// with the latch as it is: l and i, then j and not l; with the new one, l and i: (l and i) and i, then j and not that
		"ands with old and new latches": {twice, 1, true, "l@0 i@1 j@1 |  |  | 2,4 4,8 6,9 | y@1:10 z@1:12 | k@1:11"},
		// with 0 there is nothing but 0, and j
		"those, not free":         {twice, 2, false, "i@1 j@1 i@2 j@2 |  |  |  | y@1:0 z@1:4 y@2:0 z@2:8 | k@1:1 k@2:1"},
		"those, begun as 1":       {"i j | c | l=1<8@0 | 2,6 4,7 | y:8 z:10 | k:9", 2, false, "i@1 j@1 i@2 j@2 |  |  | 3,4 2,6 6,12 8,13 | y@1:2 z@1:10 y@2:14 z@2:16 | k@1:3 k@2:15"},
		"an and of step 1 in two": {"i | c | l=0<2@0 m=0<4@0 | 4,6 | y:8", 3, false, "i@1 i@2 i@3 |  |  | 2,4 4,6 | y@1:0 y@2:8 y@3:10 | "},
	} {
		got, code := holdUnroll(t, aigRead(c.text), c.steps, c.free)
		if code != impl.OK || aigWritten(got) != c.want {
			t.Errorf("%s: code %d, %s, want %s", what, code, aigWritten(got), c.want)
		}
	}
}

// Which ands are made in which order is seen where all of them are needed, though by unlike ends.
func TestUnrollOrder(t *testing.T) {
	// l takes not (m and j), m not (l and i); the outs are of (l and i) with k and with (m and j)
	a := aigRead("i j k | c | l=0<15@0 m=0<13@0 | 8,2 10,4 6,12 13,15 9,16 | x:16 y:18 | p:14")
	for steps, want := range map[int]string{
		1: "l@0 m@0 i@1 j@1 k@1 |  |  | 2,6 4,8 6,15 8,13 10,16 17,19 | x@1:20 y@1:22 | p@1:18",
		2: "l@0 m@0 i@1 j@1 k@1 i@2 j@2 k@2 |  |  | 2,6 4,8 6,21 8,19 10,22 23,25 12,21 14,19 12,33 14,31 16,34 35,37 | x@1:26 y@1:28 x@2:38 y@2:40 | p@1:24 p@2:36",
	} {
		got, code := holdUnroll(t, a, steps, true)
		if code != impl.OK || aigWritten(got) != want {
			t.Errorf("%d steps: code %d, %s, want %s", steps, code, aigWritten(got), want)
		}
	}
}

func TestUnrollFaults(t *testing.T) {
	const low, high = -1 << 63, 1<<63 - 1
	toggle := aigRead(theToggle)
	for _, free := range []bool{false, true} {
		for what, a := range notGraphs() {
			for _, steps := range []int{1, 16, 0, 17, high} {
				wantsUnroll(t, what, a, steps, free, impl.ErrBad)
			}
		}
		for steps, want := range map[int]int{1: impl.OK, 2: impl.OK, 15: impl.OK, 16: impl.OK, 0: impl.ErrRange, -1: impl.ErrRange, 17: impl.ErrRange, low: impl.ErrRange, high: impl.ErrRange, 1 << 32: impl.ErrRange, 1<<32 + 1: impl.ErrRange} {
			wantsUnroll(t, "the toggle", toggle, steps, free, want)
			wantsUnroll(t, "nothing", impl.Aig{}, steps, free, want)
			wantsUnroll(t, "two clocks", aigRead("i | c d | l=0<2@0"), steps, free, impl.ErrKind)
			wantsUnroll(t, "two clocks alone", aigRead("| c d"), steps, free, impl.ErrKind)
			wantsUnroll(t, "eight clocks", wideAig(1, 3, 4, 1, 1, 8), steps, free, impl.ErrKind)
		}
		wantsUnroll(t, "nine clocks", wideAig(1, 3, 4, 1, 1, 9), 1, free, impl.ErrBad)
		wantsUnroll(t, "the graph", theGraph(), 1, free, impl.ErrKind)
	}
}

func TestUnrollBits(t *testing.T) {
	for _, c := range []struct {
		ins, latches, outs, checks, steps int
		free                              bool
		want                              int
	}{
		{2048, 0, 0, 0, 1, false, impl.OK}, {2048, 0, 0, 0, 1, true, impl.OK}, {1024, 0, 0, 0, 2, false, impl.OK}, {1025, 0, 0, 0, 2, false, impl.ErrMany}, {683, 0, 0, 0, 3, false, impl.ErrMany}, {682, 0, 0, 0, 3, false, impl.OK},
		{128, 0, 0, 0, 16, false, impl.OK}, {129, 0, 0, 0, 16, false, impl.ErrMany}, {2048, 0, 0, 0, 16, true, impl.ErrMany},
		{128, 1, 0, 0, 16, false, impl.OK}, {128, 1, 0, 0, 16, true, impl.ErrMany}, {127, 16, 0, 0, 16, true, impl.OK}, {127, 17, 0, 0, 16, true, impl.ErrMany}, {127, 17, 0, 0, 16, false, impl.OK},
		{0, 2048, 0, 0, 16, false, impl.OK}, {0, 2048, 0, 0, 16, true, impl.OK}, {1, 2032, 0, 0, 16, true, impl.OK}, {1, 2033, 0, 0, 16, true, impl.ErrMany}, {1, 2033, 0, 0, 15, true, impl.OK}, {1, 2033, 0, 0, 16, false, impl.OK},
		{1, 0, 2048, 0, 1, false, impl.OK}, {1, 0, 1024, 0, 2, true, impl.OK}, {1, 0, 1025, 0, 2, true, impl.ErrMany}, {1, 0, 683, 0, 3, false, impl.ErrMany}, {1, 0, 128, 0, 16, false, impl.OK}, {1, 0, 129, 0, 16, false, impl.ErrMany}, {1, 0, 2048, 0, 2, false, impl.ErrMany},
		{1, 0, 0, 2048, 1, false, impl.OK}, {1, 0, 0, 1024, 2, true, impl.OK}, {1, 0, 0, 1025, 2, true, impl.ErrMany}, {1, 0, 0, 683, 3, false, impl.ErrMany}, {1, 0, 0, 128, 16, false, impl.OK}, {1, 0, 0, 129, 16, false, impl.ErrMany}, {1, 0, 0, 2048, 2, false, impl.ErrMany},
		{127, 16, 128, 128, 16, true, impl.OK}, {127, 17, 128, 128, 16, true, impl.ErrMany}, {127, 16, 129, 128, 16, true, impl.ErrMany}, {127, 16, 128, 129, 16, true, impl.ErrMany},
	} {
		a := wideAig(c.ins, c.latches, 2, c.outs, c.checks, min(c.latches, 1))
		got := wantsUnroll(t, fmt.Sprint(c), a, c.steps, c.free, c.want)
		if ins := c.ins*c.steps + c.latches*numberIf(c.free); c.want == impl.OK && (len(got.Ins) != ins || len(got.Outs) != c.outs*c.steps || len(got.Checks) != c.checks*c.steps) {
			t.Errorf("%v: %d inputs, %d outs, %d checks", c, len(got.Ins), len(got.Outs), len(got.Checks))
		}
	}
}

// rowOfAnds has so many ands, of which each reads the one ahead of it and one of a few inputs; where it has a latch the first one reads that, too.
func rowOfAnds(ands, latches int, told bool) impl.Aig {
	a := wideAig(100, latches, 0, 0, 0, latches)
	first := 1 + 100 + latches
	for i := range ands {
		a.Ands = append(a.Ands, impl.And{A: 2*(first+i-1) + 1, B: 2 + 2*(i%99)})
	}
	for i := range a.Latches {
		a.Latches[i].Next = 2 * (first + ands - 1)
	}
	if told {
		a.Outs = []impl.Pin{{Name: "y", Lit: 2 * (first + ands - 1)}}
	}
	return a
}

// All ands count that are made, be they needed or not.
func TestUnrollAnds(t *testing.T) {
	for _, c := range []struct{ ands, latches, steps, made int }{
		{8191, 0, 1, 8191}, {8192, 0, 1, 8192}, {4096, 0, 2, 8192}, {4097, 0, 2, 8194}, {2730, 0, 3, 8190}, {2731, 0, 3, 8193}, {512, 0, 16, 8192}, {513, 0, 16, 8208}, {8192, 0, 16, 131072},
		// with a latch all of them are made twice a step
		{4096, 1, 1, 8192}, {4097, 1, 1, 8194}, {2048, 1, 2, 8192}, {2049, 1, 2, 8196}, {256, 1, 16, 8192}, {257, 1, 16, 8224},
	} {
		for _, told := range []bool{false, true} {
			want := impl.OK
			if c.made > impl.MaxAnds {
				want = impl.ErrMany
			}
			got := wantsUnroll(t, fmt.Sprint(c, told), rowOfAnds(c.ands, c.latches, told), c.steps, true, want)
			needed := c.made * numberIf(told && want == impl.OK)
			if len(got.Ands) != needed {
				t.Errorf("%v: %d ands", c, len(got.Ands))
			}
		}
	}
	// as many as can be that are none, or stand there already
	a := aigRead("i j | c | l=0<2@0 | 2,4 | y:8")
	for i := range impl.MaxAnds - 1 {
		a.Ands = append(a.Ands, impl.And{A: 8 + 2*(i%2), B: []int{1, 8, 2}[i%3]})
	}
	for _, free := range []bool{false, true} {
		wantsUnroll(t, "ands that are none", a, 16, free, impl.OK)
	}
	// where the first and reads a latch that is 0 it and the next one are none: two fewer
	for ands, want := range map[int]int{4097: impl.OK, 4098: impl.ErrMany} {
		one := rowOfAnds(ands, 1, true)
		one.Ands[0].A--
		wantsUnroll(t, "a latch that was 0", one, 1, false, want)
		one.Latches[0].Next = 0
		wantsUnroll(t, "a latch that becomes 0", one, 1, true, want)
		wantsUnroll(t, "a latch that stays 0", one, 1, false, impl.OK)
	}
}

func TestUnrollLongNames(t *testing.T) {
	for what, c := range map[string]struct {
		name func(a *impl.Aig) *string
		most func(steps int, free bool) int
	}{
		"an input": {func(a *impl.Aig) *string { return &a.Ins[0] }, func(steps int, free bool) int { return 998 - steps/10 }},
		"an out":   {func(a *impl.Aig) *string { return &a.Outs[0].Name }, func(steps int, free bool) int { return 998 - steps/10 }},
		"a check":  {func(a *impl.Aig) *string { return &a.Checks[0].Name }, func(steps int, free bool) int { return 998 - steps/10 }},
		"a latch":  {func(a *impl.Aig) *string { return &a.Latches[0].Name }, func(steps int, free bool) int { return 1000 - 2*numberIf(free) }},
		"a clock":  {func(a *impl.Aig) *string { return &a.Clocks[0] }, func(steps int, free bool) int { return 1000 }},
	} {
		for size := 996; size <= 1001; size++ {
			for _, steps := range []int{1, 9, 10, 16} {
				for _, free := range []bool{false, true} {
					a := aigRead(theToggle)
					*c.name(&a) = strings.Repeat("n", size)
					want := impl.OK
					switch {
					case size > 1000:
						want = impl.ErrBad
					case size > c.most(steps, free):
						want = impl.ErrLong
					}
					wantsUnroll(t, fmt.Sprint(what, " of ", size), a, steps, free, want)
				}
			}
		}
	}
}

// Names that have been put together are never the same where they must differ, whatever they are made of.
func TestUnrollNamesTwice(t *testing.T) {
	a := aigRead("i i@1 i@1@1 1 @ @@ | c | i=0<2@0 i@1=0<2@0 i@0=1<2@0 @0=0<2@0 | | y:2 y@1:2 y@1@1:4 y@:6 | k:2 k@1:2 k@1@1:4 y@1:6")
	for steps := 1; steps <= 16; steps++ {
		for _, free := range []bool{false, true} {
			wantsUnroll(t, "names with steps in them", a, steps, free, impl.OK)
		}
	}
	// an input that has the name of a latch
	if got := wantsUnroll(t, "a latch and an input", aigRead("l | c | l=0<2@0 | | l:2 | l:4"), 2, true, impl.OK); aigWritten(got) != "l@0 l@1 l@2 |  |  |  | l@1:4 l@2:6 | l@1:4 l@2:6" {
		t.Error(aigWritten(got))
	}
}

// Where two codes are due the first one counts.
func TestUnrollOrderOfFaults(t *testing.T) {
	wrong := func(a *impl.Aig) { a.Checks = append(a.Checks, a.Checks[0]) }
	clocks := func(a *impl.Aig) { a.Clocks = append(a.Clocks, "d") }
	bits := func(a *impl.Aig) {
		for i := range 1500 {
			a.Ins = append(a.Ins, fmt.Sprint("more", i))
		}
		a.Latches, a.Outs[0].Lit = nil, 2
	}
	outs := func(a *impl.Aig) {
		for i := range 1500 {
			a.Outs = append(a.Outs, impl.Pin{Name: fmt.Sprint("more", i)})
		}
	}
	ands := func(a *impl.Aig) { *a = rowOfAnds(8000, 0, true) }
	long := func(a *impl.Aig) { a.Ins[0] = strings.Repeat("n", 999) }
	longOut := func(a *impl.Aig) { a.Outs[0].Name = strings.Repeat("n", 1000) }
	for what, c := range map[string]struct {
		changes []func(a *impl.Aig)
		steps   int
		want    int
	}{
		"no graph and clocks":       {[]func(a *impl.Aig){wrong, clocks}, 2, impl.ErrBad},
		"no graph and steps":        {[]func(a *impl.Aig){wrong}, 0, impl.ErrBad},
		"no graph and bits":         {[]func(a *impl.Aig){wrong, bits}, 2, impl.ErrBad},
		"clocks and steps":          {[]func(a *impl.Aig){clocks}, 17, impl.ErrKind},
		"clocks and bits":           {[]func(a *impl.Aig){clocks, bits}, 2, impl.ErrKind},
		"clocks and a long name":    {[]func(a *impl.Aig){clocks, long}, 2, impl.ErrKind},
		"steps and a long name":     {[]func(a *impl.Aig){long}, 17, impl.ErrRange},
		"steps and outs":            {[]func(a *impl.Aig){outs}, 17, impl.ErrRange},
		"bits and a long name":      {[]func(a *impl.Aig){bits, long}, 2, impl.ErrMany},
		"outs and a long name":      {[]func(a *impl.Aig){outs, long}, 2, impl.ErrMany},
		"outs and a long out":       {[]func(a *impl.Aig){outs, longOut}, 2, impl.ErrMany},
		"ands and a long name":      {[]func(a *impl.Aig){ands, long}, 2, impl.ErrMany},
		"a long name alone":         {[]func(a *impl.Aig){long}, 2, impl.ErrLong},
		"a long out alone":          {[]func(a *impl.Aig){longOut}, 2, impl.ErrLong},
		"few steps and a long name": {[]func(a *impl.Aig){outs, long}, 1, impl.ErrLong},
	} {
		a := aigRead("e | c | l=0<2@0 | | o:4 | k:3")
		for _, change := range c.changes {
			change(&a)
		}
		wantsUnroll(t, what, a, c.steps, false, c.want)
	}
}

// unrolledRows are the rows of the steps that an unrolled graph tells at once.
func unrolledRows(t *testing.T, a, whole impl.Aig, state []string, steps []impl.Step) []impl.Row {
	t.Helper()
	ins := append([]string{}, state...)
	for _, s := range steps {
		ins = append(ins, s.Ins...)
	}
	told, code := impl.AigRun(whole, []impl.Step{{Ins: ins}})
	if code != impl.OK {
		t.Fatalf("%s: code %d", aigWritten(whole), code)
	}
	var rows []impl.Row
	for i := range steps {
		outs, checks := len(a.Outs), len(a.Checks)
		rows = append(rows, impl.Row{Outs: told[0].Outs[i*outs : (i+1)*outs], Checks: told[0].Checks[i*checks : (i+1)*checks]})
	}
	return rows
}

// An unrolled graph tells all rows at once; where it is free, those from any state on.
func TestUnrolledRows(t *testing.T) {
	counts := map[string]int{}
	for seed := range uint64(500) {
		d := draughtsmanOf(seed + 1000)
		a := d.watched(d.below(4), d.below(5), d.below(25))
		count := 1 + d.below(16)
		inputs := make([]string, count)
		for i := range inputs {
			for range a.Ins {
				inputs[i] += d.oneOf("0", "1")
			}
		}
		steps := ticking(a, inputs)
		for _, free := range []bool{false, true} {
			from := roomyAig(a)
			var state []string
			for i := range from.Latches {
				if free {
					from.Latches[i].Init = d.below(2)
					state = append(state, fmt.Sprint(from.Latches[i].Init))
				}
			}
			whole, code := holdUnroll(t, a, count, free)
			if code != impl.OK {
				t.Fatalf("%s: code %d", aigWritten(a), code)
			}
			want, _ := impl.AigRun(from, steps)
			for i := range want {
				want[i].Regs = nil
			}
			if got := unrolledRows(t, a, whole, state, steps); rowsShown(got) != rowsShown(want) {
				t.Fatalf("%s: from %v, %v: %s, but unrolled it tells %s", aigWritten(a), state, inputs, rowsShown(want), rowsShown(got))
			}
			counts["ands"] += numberIf(len(whole.Ands) > 5)
		}
		counts["latches"] += numberIf(len(a.Latches) > 0)
		counts["none"] += numberIf(len(a.Latches) == 0)
	}
	wantsOften(t, counts, 60, []string{"ands", "latches", "none"})
}

// A graph with one piece changed is unrolled as told, or is none.
func TestBentGraphsUnrolled(t *testing.T) {
	codes := map[int]int{}
	for seed := range uint64(2500) {
		d := draughtsmanOf(seed + 2000)
		a := d.watched(d.below(4), d.below(4), d.below(12))
		if seed%4 == 0 {
			a = d.aig(d.below(4), d.below(4), d.below(12))
		}
		if d.below(2) == 0 {
			d.bent(&a)
		}
		_, code := holdUnroll(t, a, d.below(18), d.below(2) == 0)
		codes[code]++
	}
	for _, code := range []int{impl.OK, impl.ErrBad, impl.ErrKind, impl.ErrRange, impl.ErrLong} {
		if codes[code] < 10 {
			t.Errorf("codes %v", codes)
		}
	}
}
