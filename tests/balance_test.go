package tests

import (
	"testing"

	"loop.example/g00031/impl"
)

// holdBalance holds a balanced graph against what is told of it.
func holdBalance(t *testing.T, a impl.Aig) (impl.Aig, int) {
	t.Helper()
	got, code := impl.Balance(a)
	want, wantCode := balanceTold(a)
	if code != wantCode || aigShown(got) != aigShown(want) {
		t.Fatalf("%s\ncode %d, want %d\n%s, want\n%s", aigWritten(a), code, wantCode, aigWritten(got), aigWritten(want))
	}
	return got, code
}

func TestBalance(t *testing.T) {
	for text, want := range map[string]string{
		// nothing to be done
		"":                              "",
		"i j | c":                       "i j | c",
		"i | | | | y:3 z:0 w:1 | k:2":   "i | | | | y:3 z:0 w:1 | k:2",
		"i j | | | 2,4 | y:6":           "i j | | | 2,4 | y:6",
		"i j | | | 2,5 3,4 7,9 | y:11":  "i j | | | 2,5 3,4 7,9 | y:11",
		"| c | l=1<3@0 m=0<1@0 | | y:4": "| c | l=1<3@0 m=0<1@0 | | y:4",
		theAig:                          theAig,
		// the lesser literal is A
		"i j | | | 5,2 | y:6": "i j | | | 2,5 | y:6",
		// parts of parts, those of equal level from the lesser literal on
		"i j k l | | | 2,4 6,10 8,12 | y:14":                 "i j k l | | | 2,4 6,8 10,12 | y:14",
		"i j k l | | | 8,6 4,10 2,12 | y:14":                 "i j k l | | | 6,8 2,4 10,12 | y:14",
		"i j k | | | 6,4 8,2 | y:10":                         "i j k | | | 2,4 6,8 | y:10",
		"i j k | | | 7,4 8,3 | y:11":                         "i j k | | | 3,4 7,8 | y:11",
		"i j k l m | | | 2,4 6,12 8,14 10,16 | y:18":         "i j k l m | | | 2,4 6,8 10,12 14,16 | y:18",
		"i j k l m n | | | 2,4 6,14 8,16 10,18 12,20 | y:22": "i j k l m n | | | 2,4 6,8 14,16 10,12 18,20 | y:22",
		// an and that others need as well stays, beside what is made anew
		"i j k l | | | 4,6 10,2 12,8 | y:14 z:12 w:10": "i j k l | | | 4,6 2,4 6,12 6,8 12,16 | y:18 z:14 w:10",
		// each literal once
		"i j | | | 2,4 6,2 6,8 | y:10": "i j | | | 2,4 | y:6",
		"i | | | 3,3 4,3 | y:6":        "i | | | | y:3",
		"i | | | 2,2 | y:4 z:5":        "i | | | | y:2 z:3",
		// an opposite is not replaced
		"i j k | | | 2,4 9,6 | y:10":      "i j k | | | 2,4 6,9 | y:10",
		"i j k | | | 2,4 9,2 4,10 | y:12": "i j k | | | | y:0",
		// two of least level
		"i j k l | | | 2,4 11,6 12,8 | y:14":              "i j k l | | | 2,4 6,8 11,12 | y:14",
		"i j k l m | | | 2,4 13,6 15,8 16,2 18,10 | y:20": "i j k l m | | | 2,4 6,13 2,8 10,16 15,18 | y:20",
		// opposites, and 0 among the parts
		"i j | | | 2,4 6,3 | y:8 z:9":     "i j | | | | y:0 z:1",
		"i j | | | 2,4 5,2 6,8 | y:10":    "i j | | | | y:0",
		"i | | | 3,2 | y:4":               "i | | | | y:0",
		"i j | | | 2,4 6,0 | y:8 z:9":     "i j | | | | y:0 z:1",
		"i j | | | 2,0 6,4 | y:8":         "i j | | | | y:0",
		"| | | 0,0 1,0 2,5 | x:2 y:4 z:6": "| | | | x:0 y:0 z:0",
		// an and and its opposite: as parts they are none, as the one is replaced
		"i j k | | | 2,4 9,6 10,8 | y:12": "i j k | | | 2,4 6,8 9,10 | y:12",
		// 1 among them
		"i | | | 1,2 | y:4":       "i | | | | y:2",
		"| | | 1,1 | y:2 z:3":     "| | | | y:1 z:0",
		"i j | | | 1,4 2,6 | y:8": "i j | | | 2,4 | y:6",
		// what parts became: the same, opposites, 0, an and that is put in already
		"i j | | | 3,1 7,2 | y:8":           "i j | | | | y:2",
		"i | | | 2,1 5,2 | y:6":             "i | | | | y:0",
		"i | | | 1,1 5,2 | y:6":             "i | | | | y:0",
		"i j | | | 2,4 7,1 9,2 10,4 | y:12": "i j | | | 2,4 | y:6",
		// ends, names and clocks; one that is not needed
		"i j | c d | l=0<13@1 | 2,4 3,5 6,8 5,6 | y:15 | k:8": "i j | c d | l=0<11@1 | 2,4 6,8 5,6 | y:13 | k:8",
	} {
		got, code := holdBalance(t, aigRead(text))
		if code != impl.OK || aigWritten(got) != readAndWritten(want) {
			t.Errorf("%s: code %d, %s, want %s", text, code, aigWritten(got), readAndWritten(want))
		}
	}
}

// chainOf is an and of literals from the left, one and behind the other.
func chainOf(ins int, lits []int) impl.Aig {
	a := impl.Aig{Ins: wideAig(ins, 0, 0, 0, 0, 0).Ins}
	last := lits[0]
	for _, lit := range lits[1:] {
		a.Ands = append(a.Ands, impl.And{A: last, B: lit})
		last = 2 * (ins + len(a.Ands))
	}
	a.Outs = []impl.Pin{{Name: "y", Lit: last}}
	return a
}

// firstLits are the literals of the first inputs.
func firstLits(count int) []int {
	var lits []int
	for i := range count {
		lits = append(lits, 2+2*i)
	}
	return lits
}

// Parts up to MaxParts are put together; of more an and has A and B alone, the next ones again.
func TestBalanceParts(t *testing.T) {
	for _, c := range []struct {
		what  string
		lits  []int
		depth int
		out   int
	}{
		{"33 parts", firstLits(33), 6, -1},
		{"63 parts", firstLits(63), 6, -1},
		{"64 parts", firstLits(64), 6, -1},
		{"65 parts", firstLits(65), 7, -1},
		{"66 parts", firstLits(66), 8, -1},
		{"70 parts", firstLits(70), 12, -1},
		{"64 parts, some of them often", append(firstLits(64), firstLits(30)...), 6, -1},
		{"64 parts, all of them often", append(firstLits(64), append(firstLits(64), firstLits(64)...)...), 6, -1},
		{"65 parts, the last of them often", append(firstLits(64), 130, 130, 130), 9, -1},
		{"64 parts, two of them opposites", append(firstLits(63), 3), 0, 0},
		{"65 parts, two of them opposites", append(firstLits(64), 3), 7, -1},
		{"64 parts, one of them 0", append(firstLits(63), 0), 0, 0},
		{"64 parts, one of them 1", append(firstLits(63), 1), 6, -1},
		{"65 parts, one of them 1", append(firstLits(64), 1), 6, -1},
		{"66 parts, one of them 1", append(firstLits(64), 1, 130), 7, -1},
	} {
		a := chainOf(70, c.lits)
		got, code := holdBalance(t, a)
		if code != impl.OK || impl.Depth(got) != c.depth || c.out >= 0 && got.Outs[0].Lit != c.out || c.out < 0 && got.Outs[0].Lit < 142 {
			t.Errorf("%s: code %d, depth %d, want %d, out %d", c.what, code, impl.Depth(got), c.depth, got.Outs[0].Lit)
		}
	}
	// an and of two that have 64 parts each, of which so many are the same
	for same, want := range map[int]int{64: 6, 63: 7, 1: 7, 0: 7} {
		a := twoChains(firstLits(64), firstLits(128 - same)[64-same:])
		if got, code := holdBalance(t, a); code != impl.OK || impl.Depth(got) != want {
			t.Errorf("%d: code %d, depth %d", same, code, impl.Depth(got))
		}
	}
}

// twoChains is an and of two chains.
func twoChains(first, second []int) impl.Aig {
	a := chainOf(128, first)
	middle, last := a.Outs[0].Lit, second[0]
	for _, lit := range second[1:] {
		a.Ands = append(a.Ands, impl.And{A: last, B: lit})
		last = 2 * (128 + len(a.Ands))
	}
	a.Ands = append(a.Ands, impl.And{A: middle, B: last})
	a.Outs[0].Lit = 2 * (128 + len(a.Ands))
	return a
}

func TestBalanceFaults(t *testing.T) {
	for what, a := range notGraphs() {
		if got, code := holdBalance(t, a); code != impl.ErrBad || aigShown(got) != aigShown(impl.Aig{}) {
			t.Errorf("%s: code %d, %s", what, code, aigShown(got))
		}
		if depth := impl.Depth(a); depth != -1 || depthTold(a) != -1 {
			t.Errorf("%s: depth %d", what, depth)
		}
	}
}

// growing has chains of 64 literals each, with an input of its own at its beginning, of which each and makes several; and behind them ands of two inputs, of which each makes one. One alone is needed.
func growing(chains, single int) impl.Aig {
	a := impl.Aig{Ins: wideAig(300, 0, 0, 0, 0, 0).Ins}
	put := func(first, second int) int {
		a.Ands = append(a.Ands, impl.And{A: first, B: second})
		return 2 * (300 + len(a.Ands))
	}
	for chain := range chains {
		last := 400 + 2*chain
		for _, lit := range firstLits(63) {
			last = put(lit, last)
		}
	}
	for i := range single {
		put(300+2*(i/100), 400+2*(i%100))
	}
	a.Outs = []impl.Pin{{Name: "y", Lit: 2 * (300 + len(a.Ands))}}
	return a
}

// madeTold is how many ands a balanced graph has, those too that are not needed.
func madeTold(a impl.Aig) int {
	m, known := anewOf(a), map[int]int{}
	for _, and := range a.Ands {
		m.became = append(m.became, m.byParts(waysOfGraph(a).partsTold(and), known))
	}
	return len(m.ands)
}

// MaxAnds that were made are met and passed, whether they are needed or not.
func TestBalanceManyAnds(t *testing.T) {
	const chains = 30
	free := impl.MaxAnds - madeTold(growing(chains, 0))
	if free < 1000 || free > 5000 {
		t.Fatalf("%d are left", free)
	}
	for more, want := range map[int]int{-1: impl.OK, 0: impl.OK, 1: impl.ErrMany, 2: impl.ErrMany, 100: impl.ErrMany} {
		got, code := holdBalance(t, growing(chains, free+more))
		if code != want || code == impl.OK && len(got.Ands) != 1 || code != impl.OK && aigShown(got) != aigShown(impl.Aig{}) {
			t.Errorf("%d more: code %d, %d ands", more, code, len(got.Ands))
		}
	}
	deep := wideAig(100, 100, impl.MaxAnds, 5, 5, 2)
	if _, code := holdBalance(t, deep); code != impl.OK {
		t.Errorf("code %d", code)
	}
}

func TestDepth(t *testing.T) {
	for text, want := range map[string]int{
		"":                                               0,
		"i j | c":                                        0,
		"i | | | | y:0 z:1 | k:2":                        0,
		"i j | | | | y:5 z:2":                            0,
		"| c | l=1<3@0 m=0<1@0":                          0,
		"i j | | | 2,4":                                  0,
		"i j | | | 2,4 6,2 8,2 | y:4":                    0,
		"i j | | | 2,4 | y:6":                            1,
		"i j | | | 2,4 | y:7":                            1,
		"i j | | | 2,4 | | k:7":                          1,
		"i | c | l=0<7@0 | 2,4":                          1,
		"i j | | | 2,4 2,6 2,8 | y:6 z:8":                2,
		"i j | | | 2,4 2,6 2,8 | y:6 | k:10":             3,
		"i j | | | 2,4 2,6 2,8 | z:10 y:6":               3,
		"i | c | l=0<10@0 m=1<2@0 | 2,4 2,8 | y:8 | k:3": 2,
		"i | c | l=0<2@0 m=1<10@0 | 2,4 2,8 | y:8 | k:3": 2,
		// the greater one of both operands', the second too
		"i j | | | 2,4 2,6 8,4 4,8 6,10 | y:14": 4,
		"i j | | | 2,4 2,6 8,4 4,8 10,6 | y:14": 4,
		// ands that are false or true, or what is there already, have a level
		"| | | 0,0 1,1 2,4 | y:6":       2,
		"i | | | 2,2 4,4 2,3 | y:6 z:8": 2,
		theAig:                          3,
	} {
		a := aigRead(text)
		if got := impl.Depth(a); got != want || depthTold(a) != want {
			t.Errorf("%s: %d, want %d, told %d", text, got, want, depthTold(a))
		}
	}
	deep := wideAig(1, 1, impl.MaxAnds, 1, 1, 1)
	if got := impl.Depth(deep); got != impl.MaxAnds {
		t.Errorf("%d", got)
	}
}
