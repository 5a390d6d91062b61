package tests

import (
	"fmt"
	"testing"

	"loop.example/g00031/impl"
)

// holdLuts holds a mapped graph against what is told of it.
func holdLuts(t *testing.T, a impl.Aig, most int) (impl.Mapped, int) {
	t.Helper()
	got, code := impl.MapLuts(a, most)
	want, wantCode := mapLutsTold(a, most)
	if code != wantCode || mapShown(got) != mapShown(want) {
		t.Fatalf("%s\nmost %d: code %d, want %d\n%s, want\n%s", aigWritten(a), most, code, wantCode, mapWritten(got), mapWritten(want))
	}
	return got, code
}

// wantsLuts holds the graph of one text against the mapped design of another one.
func wantsLuts(t *testing.T, text string, most int, want string) {
	t.Helper()
	got, code := holdLuts(t, aigRead(text), most)
	if want = mapWritten(mapRead(want)); code != impl.OK || mapWritten(got) != want {
		t.Errorf("%s: most %d: code %d, %s, want %s", text, most, code, mapWritten(got), want)
	}
}

// What a literal is, whatever most is.
func TestLutsOfLiterals(t *testing.T) {
	for text, want := range map[string]string{
		"":        "",
		"i j | c": "i j | c",
		// inputs and latches themselves
		"i j | | | | x:4 y:2 z:4 | k:2":         "i j | | | | x:1 y:0 z:1 | k:0",
		"i | c | l=1<4@0 m=0<2@0 | | y:6 | k:4": "i | c | l=1<1@0 m=0<0@0 | | y:2 | k:1",
		// false and true, each once
		"| | | | y:0":                   "| | | =0 | y:0",
		"| | | | y:1":                   "| | | =1 | y:0",
		"| | | | y:0 z:1 w:0 | k:1":     "| | | =0 =1 | y:0 z:1 w:0 | k:1",
		"| | | | y:1 z:0 | k:0 q:1":     "| | | =1 =0 | y:0 z:1 | k:1 q:0",
		"| c | l=1<0@0 m=0<0@0 | | y:1": "| c | l=1<3@0 m=0<3@0 | =1 =0 | y:2",
		// an input's and a latch's opposite, each once
		"i j | | | | x:5 y:3 z:5 | k:3":         "i j | | | 1=1 0=1 | x:2 y:3 z:2 | k:3",
		"i | c | l=1<5@0 m=0<3@0 | | y:5 z:4":   "i | c | l=1<3@0 m=0<4@0 | 1=1 0=1 | y:3 z:1",
		"| c | l=0<3@0":                         "| c | l=0<1@0 | 0=1",
		"i j | | | | w:2 x:3 y:4 z:5 | k:5 q:3": "i j | | | 0=1 1=1 | w:0 x:2 y:1 z:3 | k:3 q:2",
		// outs, checks and Nexts in this order
		"i j | c | l=0<3@0 m=1<0@0 | | y:5 | k:1":             "i j | c | l=0<6@0 m=1<7@0 | 1=1 =1 0=1 =0 | y:4 | k:5",
		"i j | c | l=0<1@0 m=1<5@0 | | y:3 z:9 | k:7 q:5 p:9": "i j | c | l=0<8@0 m=1<7@0 | 0=1 3=1 2=1 1=1 =1 | y:4 z:5 | k:6 q:7 p:5",
		// an and, as an out, a check, a Next
		"i j | | | 2,4 | y:6":           "i j | | | 0,1=8 | y:2",
		"i j | | | 2,4 | | k:6":         "i j | | | 0,1=8 | | k:2",
		"i | c | l=0<6@0 | 2,4":         "i | c | l=0<2@0 | 0,1=8",
		"i j | | | 2,4 | y:6 z:6 | k:6": "i j | | | 0,1=8 | y:2 z:2 | k:2",
		"i j | | | 2,5 5,3 | y:8 z:6":   "i j | | | 0,1=2 0,1=1 | y:3 z:2",
		"i j | | | 4,3 | y:6":           "i j | | | 0,1=4 | y:2",
		"i | c | l=1<6@0 | 2,5 | y:6":   "i | c | l=1<2@0 | 0,1=2 | y:2",
		"i j | | | 2,4 | y:2 z:5":       "i j | | | 1=1 | y:0 z:2",
		"i j | | | 2,4 2,5 3,4 | y:8":   "i j | | | 0,1=2 | y:2",
		// its opposite alone: the and gives no table
		"i j | | | 2,4 | y:7":           "i j | | | 0,1=7 | y:2",
		"i j | | | 2,4 | | k:7":         "i j | | | 0,1=7 | | k:2",
		"i | c | l=0<7@0 | 2,4":         "i | c | l=0<2@0 | 0,1=7",
		"i j | | | 2,4 | y:7 z:7 | k:7": "i j | | | 0,1=7 | y:2 z:2 | k:2",
		"i j | | | 2,5 3,5 | y:9 z:7":   "i j | | | 0,1=14 0,1=13 | y:2 z:3",
		// both of them: the opposite's table stands behind all ands'
		"i j | | | 2,4 | y:7 z:6":                 "i j | | | 0,1=8 0,1=7 | y:3 z:2",
		"i j | | | 2,4 | y:6 | k:7":               "i j | | | 0,1=8 0,1=7 | y:2 | k:3",
		"i j | | | 2,4 3,5 | w:9 x:6 y:8 z:7":     "i j | | | 0,1=8 0,1=1 0,1=14 0,1=7 | w:4 x:2 y:3 z:5",
		"i | c | l=0<6@0 m=1<8@0 | 2,4 | y:9 z:3": "i | c | l=0<2@0 m=1<3@0 | 0,1=8 0,1=7 0=1 | y:4 z:5",
		// one leaf, and none
		"i | | | 2,2 | y:4 z:5":         "i | | | 0=2 0=1 | y:1 z:2",
		"i | | | 3,3 | x:3 y:4 z:5":     "i | | | 0=1 0=1 0=2 | x:2 y:1 z:3",
		"i | | | 2,3 | y:4 z:5":         "i | | | 0=0 0=3 | y:1 z:2",
		"i | | | 0,2 | y:5":             "i | | | 0=3 | y:1",
		"i j | | | 4,1 | y:6":           "i j | | | 1=2 | y:2",
		"| | | 1,1 | y:2":               "| | | =1 | y:0",
		"| | | 1,1 | y:3":               "| | | =0 | y:0",
		"| | | 0,1 | y:2 z:3":           "| | | =0 =1 | y:0 z:1",
		"| | | 0,1 | x:3 y:1 z:2 | k:0": "| | | =0 =1 =1 =0 | x:1 y:2 z:0 | k:3",
		"| | | 1,1 2,2 | y:5 z:4":       "| | | =1 =0 | y:1 z:0",
		"i | | | 1,1 4,3 | y:6 z:7":     "i | | | 0=1 0=2 | y:1 z:2",
		"i j | | | 1,1 2,4 6,8 | y:10":  "i j | | | 0,1=8 | y:2",
		// the same twice, as other literals
		"i j | | | 2,4 4,2 | w:9 x:6 y:8 z:7": "i j | | | 0,1=8 0,1=8 0,1=7 0,1=7 | w:4 x:2 y:3 z:5",
	} {
		for most := 2; most <= 4; most++ {
			wantsLuts(t, text, most, want)
		}
	}
}

// Which cut is the best one, and what is needed by it.
func TestLutsOfCuts(t *testing.T) {
	const chain = "i j k l | | | 2,4 6,10 8,12 | "
	const tree = "i j k l | | | 2,4 6,8 10,12 | "
	for _, c := range []struct {
		text string
		most int
		want string
	}{
		// the time decides ahead of how many leaves there are
		{"i j k | | | 2,4 6,8 | y:10", 2, "i j k | | | 0,1=8 2,3=8 | y:4"},
		{"i j k | | | 2,4 6,8 | y:10", 3, "i j k | | | 0,1,2=128 | y:3"},
		{"i j k | | | 2,4 6,8 | y:10", 4, "i j k | | | 0,1,2=128 | y:3"},
		{chain + "y:14", 2, "i j k l | | | 0,1=8 2,4=8 3,5=8 | y:6"},
		{chain + "y:14", 4, "i j k l | | | 0,1,2,3=32768 | y:4"},
		{tree + "y:14", 2, "i j k l | | | 0,1=8 2,3=8 4,5=8 | y:6"},
		{tree + "y:14", 4, "i j k l | | | 0,1,2,3=32768 | y:4"},
		// of one time the fewest leaves: {4 6}, not {3 4 5}, which comes ahead of it; {5 6}, not {1 2 6}
		{chain + "y:14", 3, "i j k l | | | 0,1,2=128 3,4=8 | y:5"},
		{tree + "y:14", 3, "i j k l | | | 0,1=8 2,3=8 4,5=8 | y:6"},
		// of these the first: {3 4}, not {3 5}
		{"i j k | | | 2,4 9,9 6,11 | y:12", 2, "i j k | | | 0,1=8 2,3=8 | y:4"},
		{"i j k | | | 2,4 9,9 6,11 | y:13", 2, "i j k | | | 0,1=8 2,3=7 | y:4"},
		{"i j k | | | 2,4 6,8 10,10 | y:12", 2, "i j k | | | 0,1=8 2,3=8 | y:4"},
		// least time comes last of all cuts: {10 11 12}, behind {1 2 13}, {1 9 13} and {10 13}
		{"i j k l m n | | | 2,5 3,4 15,17 19,2 6,8 10,12 22,24 20,26 | y:28", 3, "i j k l m n | | | 0,1=2 2,3=8 4,5=8 6,7,8=128 | y:9"},
		// what a table reads as an opposite is not an opposite's table
		{"i j k | | | 2,4 6,9 | y:10", 2, "i j k | | | 0,1=8 2,3=2 | y:4"},
		{"i j k | | | 2,4 6,9 | y:10", 4, "i j k | | | 0,1,2=112 | y:3"},
		{"i j k | | | 2,5 7,9 | y:10", 2, "i j k | | | 0,1=2 2,3=1 | y:4"},
		// of an opposite the leaves are needed, and not the and
		{"i j k | | | 2,4 6,8 | y:11", 2, "i j k | | | 0,1=8 2,3=7 | y:4"},
		{"i j k | | | 2,4 6,8 | y:11", 3, "i j k | | | 0,1,2=127 | y:3"},
		{"i j k | | | 2,4 6,8 | y:11 z:9", 2, "i j k | | | 0,1=8 2,3=7 0,1=7 | y:4 z:5"},
		{"i j k | | | 2,4 6,8 | y:11 z:9", 3, "i j k | | | 0,1,2=127 0,1=7 | y:3 z:4"},
		{"i j k | | | 2,4 6,8 | y:10 z:9", 2, "i j k | | | 0,1=8 2,3=8 0,1=7 | y:4 z:5"},
		{"i j k | | | 2,4 6,8 | y:10 z:8", 4, "i j k | | | 0,1=8 0,1,2=128 | y:4 z:3"},
		{"i j k | | | 2,4 6,8 | y:10 z:11", 2, "i j k | | | 0,1=8 2,3=8 2,3=7 | y:4 z:5"},
		{chain + "y:15", 4, "i j k l | | | 0,1,2,3=32767 | y:4"},
		{chain + "y:15", 3, "i j k l | | | 0,1,2=128 3,4=7 | y:5"},
		{chain + "y:15 z:13", 3, "i j k l | | | 0,1,2=128 3,4=7 0,1,2=127 | y:5 z:6"},
		{chain + "y:15 z:11", 2, "i j k l | | | 0,1=8 2,4=8 3,5=7 0,1=7 | y:6 z:7"},
		// by way of leaves of leaves; not what stands in between
		{chain + "y:10 | k:14", 4, "i j k l | | | 0,1=8 0,1,2,3=32768 | y:4 | k:5"},
		{"i j k l m | | | 2,4 6,12 8,14 10,16 | y:18", 2, "i j k l m | | | 0,1=8 2,5=8 3,6=8 4,7=8 | y:8"},
		{"i j k l m | | | 2,4 6,12 8,14 10,16 | y:18", 3, "i j k l m | | | 0,1,2=128 3,4,5=128 | y:6"},
		{"i j k l m | | | 2,4 6,12 8,14 10,16 | y:18", 4, "i j k l m | | | 0,1,2,3=32768 4,5=8 | y:6"},
		// exclusive ors, and all kinds together
		{"i j | | | 2,5 3,4 7,9 | y:11 z:10", 2, "i j | | | 0,1=9 0,1=6 | y:3 z:2"},
		{"i j k | | | 2,5 3,4 9,11 13,7 12,6 15,17 | y:19", 2, "i j k | | | 0,1=9 2,3=9 | y:4"},
		{"i j k | | | 2,5 3,4 9,11 13,7 12,6 15,17 | y:19", 3, "i j k | | | 0,1,2=150 | y:3"},
		{theAig, 4, "i j | c d | l=0<8@0 m=1<9@0 n=0<1@1 | 0,2,3=135 3=1 4=1 0,2=6 0,2,3=120 | y:2 z:6 w:7 | k:8 q:5"},
		{theAig, 3, "i j | c d | l=0<8@0 m=1<9@0 n=0<1@1 | 0,2,3=135 3=1 4=1 0,2=6 0,2,3=120 | y:2 z:6 w:7 | k:8 q:5"},
		{theAig, 2, "i j | c d | l=0<9@0 m=1<10@0 n=0<1@1 | 0,2=8 3,5=9 3=1 4=1 0,2=6 3,5=6 | y:2 z:7 w:8 | k:9 q:6"},
	} {
		wantsLuts(t, c.text, c.most, c.want)
	}
}

func TestLutsFaults(t *testing.T) {
	const low, high = -1 << 63, 1<<63 - 1
	wants := func(what string, a impl.Aig, most, want int) {
		t.Helper()
		if got, code := holdLuts(t, a, most); code != want || code != impl.OK && mapShown(got) != mapShown(impl.Mapped{}) {
			t.Errorf("%s: most %d: code %d, %s", what, most, code, mapShown(got))
		}
	}
	for most, want := range map[int]int{1: impl.ErrRange, 2: impl.OK, 3: impl.OK, 4: impl.OK, 5: impl.ErrRange, 0: impl.ErrRange, -3: impl.ErrRange, 64: impl.ErrRange, low: impl.ErrRange, high: impl.ErrRange} {
		wants("a graph", theGraph(), most, want)
		wants("nothing", impl.Aig{}, most, want)
		wants("too many tables", opposites(1025), most, max(want, impl.ErrMany))
		for what, a := range notGraphs() {
			wants(what, a, most, impl.ErrBad)
		}
	}
}

// opposites tells the opposites of so many inputs.
func opposites(count int) impl.Aig {
	a := impl.Aig{Ins: wideAig(count, 0, 0, 0, 0, 0).Ins}
	for i := range count {
		a.Outs = append(a.Outs, impl.Pin{Name: fmt.Sprint("y", i), Lit: 3 + 2*i})
	}
	return a
}

// pairs has so many ands of inputs, no two of which are the same, of which so many are told as they are, by outs, and so many as their opposites, by checks.
func pairs(ands, told, turned int) impl.Aig {
	const ins = 100
	a := impl.Aig{Ins: wideAig(ins, 0, 0, 0, 0, 0).Ins}
	for i := range ands {
		a.Ands = append(a.Ands, impl.And{A: 2 + 2*(i/50), B: 102 + 2*(i%50)})
	}
	for i := range told {
		a.Outs = append(a.Outs, impl.Pin{Name: fmt.Sprint("y", i), Lit: 2 * (1 + ins + i)})
	}
	for i := range turned {
		a.Checks = append(a.Checks, impl.Pin{Name: fmt.Sprint("k", i), Lit: 2*(1+ins+i) + 1})
	}
	return a
}

// longChain is an and of so many inputs, one behind the other, of which the last one is told.
func longChain(ands int) impl.Aig {
	a := impl.Aig{Ins: wideAig(ands+1, 0, 0, 0, 0, 0).Ins}
	last := 2
	for i := range ands {
		a.Ands = append(a.Ands, impl.And{A: last, B: 4 + 2*i})
		last = 2 * (2 + ands + i)
	}
	a.Outs = []impl.Pin{{Name: "y", Lit: last}}
	return a
}

// withEnds puts so many outs and latches of one literal each to a graph without latches.
func withEnds(a impl.Aig, outs, latches []int) impl.Aig {
	for i, lit := range outs {
		a.Outs = append(a.Outs, impl.Pin{Name: fmt.Sprint("more", i), Lit: lit})
	}
	moved := func(lit int) int {
		if lit/2 > len(a.Ins) {
			return lit + 2*len(latches)
		}
		return lit
	}
	for i := range a.Ands {
		a.Ands[i] = impl.And{A: moved(a.Ands[i].A), B: moved(a.Ands[i].B)}
	}
	for _, pins := range [][]impl.Pin{a.Outs, a.Checks} {
		for i := range pins {
			pins[i].Lit = moved(pins[i].Lit)
		}
	}
	a.Clocks = []string{"clock"}
	for i, lit := range latches {
		a.Latches = append(a.Latches, impl.Latch{Name: fmt.Sprint("l", i), Next: moved(lit)})
	}
	return a
}

// MaxLuts tables, of ands and put behind, are met and passed.
func TestLutsMany(t *testing.T) {
	for what, c := range map[string]struct {
		a    impl.Aig
		most int
		want int
	}{
		"ands":                               {pairs(1024, 1024, 0), 4, 1024},
		"an and more":                        {pairs(1025, 1025, 0), 4, -1},
		"an and more that is not needed":     {pairs(1025, 1024, 0), 4, 1024},
		"very many that are not needed":      {pairs(2500, 1024, 0), 2, 1024},
		"opposites of ands":                  {pairs(1024, 0, 1024), 3, 1024},
		"an opposite more":                   {pairs(1025, 0, 1025), 3, -1},
		"ands both ways":                     {pairs(512, 512, 512), 4, 1024},
		"one more as it is":                  {pairs(513, 513, 512), 4, -1},
		"one more as its opposite":           {pairs(513, 512, 513), 4, -1},
		"opposites of inputs":                {opposites(1024), 2, 1024},
		"an input's opposite more":           {opposites(1025), 2, -1},
		"true besides":                       {withEnds(pairs(1023, 1023, 0), []int{1, 1}, nil), 4, 1024},
		"true and false besides":             {withEnds(pairs(1023, 1023, 0), []int{1, 0}, nil), 4, -1},
		"false for a latch":                  {withEnds(pairs(1023, 1023, 0), nil, []int{0, 0, 0}), 4, 1024},
		"true for another one":               {withEnds(pairs(1023, 1023, 0), nil, []int{0, 0, 1}), 4, -1},
		"inputs and ands that are there":     {withEnds(pairs(1024, 1024, 0), []int{2, 4, 202}, []int{2, 202, 204}), 4, 1024},
		"an opposite of which there is none": {withEnds(pairs(1024, 1024, 0), []int{2, 4, 202}, []int{2, 203, 204}), 4, -1},
		"one literal, very often":            {wideAig(1, 0, 0, 2048, 2048, 1), 4, 1},
		"leaves":                             {longChain(1024), 2, 1024},
		"leaves, one more":                   {longChain(1025), 2, -1},
		"fewer by more leaves":               {longChain(2047), 3, 1024},
		"and fewer":                          {longChain(2047), 4, 683},
	} {
		got, code := holdLuts(t, c.a, c.most)
		if c.want < 0 {
			if code != impl.ErrMany || mapShown(got) != mapShown(impl.Mapped{}) {
				t.Errorf("%s: code %d, %d tables", what, code, len(got.Luts))
			}
			continue
		}
		if code != impl.OK || len(got.Luts) != c.want {
			t.Errorf("%s: code %d, %d tables, want %d", what, code, len(got.Luts), c.want)
		}
		wantsMap(t, what, got, true)
	}
	// as many ands as there can be, one behind the other
	deep := wideAig(100, 100, impl.MaxAnds, 5, 5, 2)
	for most := 2; most <= 4; most++ {
		if _, code := holdLuts(t, deep, most); code != impl.ErrMany {
			t.Errorf("most %d: code %d", most, code)
		}
	}
}
