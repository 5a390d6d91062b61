package tests

import (
	"fmt"
	"testing"

	"loop.example/g00031/impl"
)

// holdRewrite holds a rewritten graph against what is told of it.
func holdRewrite(t *testing.T, a impl.Aig) (impl.Aig, int) {
	t.Helper()
	got, code := impl.Rewrite(a)
	want, wantCode, _ := rewriteTold(a)
	if code != wantCode || aigShown(got) != aigShown(want) {
		t.Fatalf("%s\ncode %d, want %d\n%s, want\n%s", aigWritten(a), code, wantCode, aigWritten(got), aigWritten(want))
	}
	return got, code
}

// readAndWritten is a graph's text as aigWritten writes it.
func readAndWritten(text string) string { return aigWritten(aigRead(text)) }

func TestRewrite(t *testing.T) {
	for text, want := range map[string]string{
		// nothing to be done
		"":                              "",
		"i j | c":                       "i j | c",
		"i | | | | y:3 z:0 w:1 | k:2":   "i | | | | y:3 z:0 w:1 | k:2",
		"i j | | | 2,4 | y:6":           "i j | | | 2,4 | y:6",
		"i j | | | 2,5 3,4 7,9 | y:11":  "i j | | | 2,5 3,4 7,9 | y:11",
		"| c | l=1<3@0 m=0<1@0 | | y:4": "| c | l=1<3@0 m=0<1@0 | | y:4",
		// the lesser literal is A
		"i j | | | 4,2 | y:6": "i j | | | 2,4 | y:6",
		"i j | | | 5,2 | y:6": "i j | | | 2,5 | y:6",
		"i j | | | 4,3 | y:6": "i j | | | 3,4 | y:6",
		"i j | | | 5,3 | y:6": "i j | | | 3,5 | y:6",
		// false and true
		"i | | | 2,3 | y:4 z:5":                       "i | | | | y:0 z:1",
		"| | | 1,1 0,1 0,0 2,5 | w:2 x:4 y:6 z:8 u:9": "| | | | w:1 x:0 y:0 z:1 u:0",
		"i j | | | 2,0 0,5 | y:6 z:9":                 "i j | | | | y:0 z:1",
		"i j | | | 2,4 6,3 | y:8":                     "i j | | | | y:0",
		"i j | | | 2,4 3,5 6,8 | y:10 z:11":           "i j | | | | y:0 z:1",
		"i j | | | 2,3 4,5 7,9 | y:10 z:11":           "i j | | | | y:1 z:0",
		// a leaf, and its opposite
		"i | | | 2,1 1,3 2,2 3,3 | w:4 x:6 y:8 z:10":        "i | | | | w:2 x:3 y:2 z:3",
		"i | | | 2,1 1,3 2,2 3,3 | w:5 x:7 y:9 z:11":        "i | | | | w:3 x:2 y:3 z:2",
		"i j | | | 2,4 2,5 7,9 | y:10 z:11":                 "i j | | | | y:3 z:2",
		"i j | | | 2,4 3,4 7,9 | y:10 z:11":                 "i j | | | | y:5 z:4",
		"i | c | l=0<10@0 m=1<9@0 | 4,4 7,7 | y:10 | k:8":   "i | c | l=0<7@0 m=1<5@0 | | y:7 | k:4",
		"i j | | | 2,5 3,4 7,9 11,5 10,4 13,15 | y:17 z:11": "i j | | | 2,5 3,4 7,9 | y:2 z:11",
		// an and that is there already, by way of others; of cuts the first that decides
		"i j | | | 2,4 2,6 | y:8 z:6":    "i j | | | 2,4 | y:6 z:6",
		"i j | | | 2,4 4,2 6,8 | y:10":   "i j | | | 2,4 | y:6",
		"i j | | | 2,4 5,2 6,9 | y:10":   "i j | | | 2,4 | y:6",
		"i j | | | 2,4 7,2 9,2 | y:10":   "i j | | | 2,4 | y:6",
		"i j | | | 2,4 7,2 | y:8":        "i j | | | 2,5 | y:6",
		"i j k | | | 2,4 2,6 8,10 | y:8": "i j k | | | 2,4 | y:8",
		"i j k | | | 2,4 6,8 | y:10":     "i j k | | | 2,4 6,8 | y:10",
		// the opposite of an and
		"i j | | | 2,4 7,1 | y:8 z:9":                "i j | | | 2,4 | y:7 z:6",
		"i j | | | 3,5 7,7 | y:8 z:9":                "i j | | | 3,5 | y:7 z:6",
		"i j | | | 2,4 3,5 7,9 11,9 | y:12":          "i j | | | 2,4 | y:6",
		"i j | | | 2,4 3,5 7,9 7,11 | y:12":          "i j | | | 3,5 | y:6",
		"i j k | | | 2,4 2,5 9,11 13,6 12,6 | y:14":  "i j k | | | 2,6 | y:8",
		"i j k | | | 2,4 2,5 9,11 13,6 12,6 | y:17":  "i j k | | | 3,6 | y:9",
		"i j k | | | 2,4 2,5 9,11 12,7 15,15 | y:16": "i j k | | | 3,7 | y:9",
		// ends, names and clocks; ands in their order, of which one is not needed
		"i j | c d | l=0<13@1 | 2,4 3,5 6,8 5,6 | y:15 | k:8": "i j | c d | l=0<11@1 | 2,4 6,8 5,6 | y:13 | k:8",
		theAig: theAig,
		// none decides: of the last and {7 9} is not among the first seven cuts
		"i j k l | | | 4,8 4,8 10,2 6,10 16,8 18,14 | y:20": "i j k l | | | 4,8 2,10 6,10 8,14 12,16 | y:18",
	} {
		got, code := holdRewrite(t, aigRead(text))
		if code != impl.OK || aigWritten(got) != readAndWritten(want) {
			t.Errorf("%s: code %d, %s, want %s", text, code, aigWritten(got), readAndWritten(want))
		}
	}
}

// What hangs on two of four leaves alone, each as it is or its opposite, becomes their and, or its opposite: the others, k and m, are brought in and do not matter.
func TestRewritePairs(t *testing.T) {
	for _, pair := range thePairs {
		for turned := range 4 {
			first, second := 2+2*pair[0]+turned%2, 2+2*pair[1]+turned/2
			var others []int
			for place := range 4 {
				if place != pair[0] && place != pair[1] {
					others = append(others, 2+2*place)
				}
			}
			and := fmt.Sprint(first, ",", second)
			text := fmt.Sprint("a b c d | | | ", and, " ", others[0], ",", others[1], " 10,12 10,13 15,17 19,1 | y:18 z:20")
			want := "a b c d | | | " + and + " | y:11 z:10"
			got, code := holdRewrite(t, aigRead(text))
			if code != impl.OK || aigWritten(got) != readAndWritten(want) {
				t.Errorf("%s: code %d, %s, want %s", text, code, aigWritten(got), want)
			}
			cuts, _ := holdCuts(t, aigRead(text), 4)
			if leaves := fmt.Sprint(cuts[4][0].Leaves); leaves != "[1 2 3 4]" {
				t.Errorf("%s: the first cut is %s", text, leaves)
			}
		}
	}
}

// notGraphs are graphs with one thing that is not as it should be.
func notGraphs() map[string]impl.Aig {
	all := map[string]impl.Aig{}
	for what, change := range map[string]func(a *impl.Aig){
		"an and of itself":    func(a *impl.Aig) { a.Ands[6].A = 24 },
		"a literal below":     func(a *impl.Aig) { a.Ands[0].A = -1 },
		"a literal far above": func(a *impl.Aig) { a.Ands[2].B = 1<<63 - 1 },
		"an out far below":    func(a *impl.Aig) { a.Outs[0].Lit = -1 << 63 },
		"a check above":       func(a *impl.Aig) { a.Checks[1].Lit = 26 },
		"a Next above":        func(a *impl.Aig) { a.Latches[0].Next = 26 },
		"an Init":             func(a *impl.Aig) { a.Latches[0].Init = 2 },
		"a clock":             func(a *impl.Aig) { a.Latches[0].Clock = 2 },
		"a name twice":        func(a *impl.Aig) { a.Outs[1].Name = a.Outs[0].Name },
		"an empty name":       func(a *impl.Aig) { a.Ins[0] = "" },
		"too many ands":       func(a *impl.Aig) { a.Ands = make([]impl.And, impl.MaxAnds+1) },
		"very many ands":      func(a *impl.Aig) { a.Ands = make([]impl.And, 1<<20) },
		"too many inputs":     func(a *impl.Aig) { *a = wideAig(2049, 0, 0, 0, 0, 0) },
	} {
		a := theGraph()
		change(&a)
		all[what] = a
	}
	return all
}

func TestRewriteFaults(t *testing.T) {
	for what, a := range notGraphs() {
		if got, code := holdRewrite(t, a); code != impl.ErrBad || aigShown(got) != aigShown(impl.Aig{}) {
			t.Errorf("%s: code %d, %s", what, code, aigShown(got))
		}
	}
}

// As many ands as there can be are not too many, as each of them makes at most one.
func TestRewriteManyAnds(t *testing.T) {
	a := impl.Aig{Ins: wideAig(2048, 0, 0, 0, 0, 0).Ins}
	for i := range impl.MaxAnds {
		a.Ands = append(a.Ands, impl.And{A: 2 + 2*(i/5), B: 3 + 2*(i/5+i%5+1)})
	}
	for i := range 2048 {
		a.Outs = append(a.Outs, impl.Pin{Name: fmt.Sprint("y", i), Lit: 2 * (2049 + 4*i)})
	}
	got, code := holdRewrite(t, a)
	if code != impl.OK || len(got.Ands) != 2048 {
		t.Errorf("code %d, %d ands", code, len(got.Ands))
	}
	deep := wideAig(100, 100, impl.MaxAnds, 5, 5, 2)
	if _, code := holdRewrite(t, deep); code != impl.OK {
		t.Errorf("code %d", code)
	}
}
