package tests

import (
	"fmt"
	"strings"
	"testing"

	"loop.example/g00031/impl"
)

// holdInduction holds a proof by induction against what is told of it; CheckProof takes it, unless it is open.
func holdInduction(t *testing.T, a impl.Aig, steps, work int) (impl.Proof, int) {
	t.Helper()
	p, code := impl.Induction(a, steps, work)
	want, wantCode := inductionTold(a, steps, work)
	if code != wantCode || proofShown(p) != proofShown(want) {
		t.Fatalf("%s: %d steps, work %d: code %d, want %d\n%s, want\n%s", aigWritten(a), steps, work, code, wantCode, proofWritten(p), proofWritten(want))
	}
	if code == impl.OK && impl.CheckProof(a, p) != (p.Kind != impl.Open) {
		t.Fatalf("%s: %d steps: %s: taken %v", aigWritten(a), steps, proofWritten(p), p.Kind == impl.Open)
	}
	return p, code
}

// wantsInduction: the graph has that code, and no proof where it is not OK.
func wantsInduction(t *testing.T, what string, a impl.Aig, steps, work, want int) impl.Proof {
	t.Helper()
	p, code := holdInduction(t, a, steps, work)
	if code != want || code != impl.OK && proofShown(p) != proofShown(impl.Proof{}) {
		t.Errorf("%s: %d steps, work %d: code %d, want %d: %s", what, steps, work, code, want, proofWritten(p))
	}
	return p
}

const (
	// keptZero has a latch l that stays 0, m that takes l, n that takes m; a check that n is 0.
	keptZero = "| c | l=0<2@0 m=0<2@0 n=0<4@0 | | | k:7"
	// neverOpen has a latch l that stays 0 and m that takes l and i; a check that m is 0. From where l is 1 that fails, after however many steps.
	neverOpen = "i | c | l=0<4@0 m=0<8@0 | 2,4 | | k:7"
)

func TestInduction(t *testing.T) {
	for what, c := range map[string]struct {
		text  string
		steps int
		want  string
	}{
		"true":                             {"| | | | | k:1", 1, "proved 1 [] [] {. / .}"},
		"true, of more steps":              {"i | c | l=0<2@0 | | | k:1", 3, "proved 3 [] [] {. / . / . / .}"},
		"false":                            {"i | | | | | k:0", 2, "fails 1 [0] [] {}"},
		"fails as Bounded tells it":        {"i | c | l=0<2@0 m=0<4@0 n=0<6@0 | | | k:9", 4, "fails 3 [1 0 0] [] {}"},
		"not yet, and free it does":        {"i | c | l=0<2@0 m=0<4@0 n=0<6@0 | | | k:9", 2, "open 2 [1 0 0] [000] {}"},
		"and of a step less":               {"i | c | l=0<2@0 m=0<4@0 n=0<6@0 | | | k:9", 1, "open 1 [0 0] [100] {}"},
		"the toggle":                       {theToggle, 2, "fails 1 [1] [] {}"},
		"the toggle is what comes in":      {"e | c | l=0<7@0 | 3,5 2,5 | o:4 | k:9", 1, "proved 1 [] [] {. / .}"},
		"a latch that stays":               {"| c | l=0<2@0 | | | k:3", 1, "proved 1 [] [] {. / .}"},
		"a latch that stays, begun as 1":   {"| c | l=1<2@0 | | | k:3", 1, "fails 1 [] [] {}"},
		"a latch that takes 0":             {"| c | l=1<0@0 | | | k:3", 1, "proved 1 [] [] {. / .}"},
		"one by one, of one step":          {keptZero, 1, "open 1 [ ] [100] {}"},
		"one by one, of two":               {keptZero, 2, "proved 2 [] [] {. / . / .}"},
		"one by one, of three":             {keptZero, 3, "proved 3 [] [] {. / . / . / .}"},
		"open with what comes in":          {neverOpen, 1, "open 1 [0 1] [10] {}"},
		"open with what comes in, later":   {neverOpen, 3, "open 3 [0 0 0 1] [10] {}"},
		"all checks hold ahead":            {"i | c | l=0<4@0 m=0<8@0 | 2,4 | | k:7 q:5", 1, "proved 1 [] [] {. / .}"},
		"whichever comes first":            {"i | c | l=0<4@0 m=0<8@0 | 2,4 | | q:5 k:7", 1, "proved 1 [] [] {. / .}"},
		"one of several fails at the last": {"i | c | l=0<4@0 m=0<8@0 | 2,4 | | k:7 q:1", 2, "open 2 [0 0 1] [10] {}"},
		"the state is behind no tick":      {"i | c | l=0<0@0 | 2,4 | | k:7", 1, "proved 1 [] [] {. / .}"},
		"searched for, free":               {neverBoth, 1, "proved 1 [] [] {2, -2, . / 2 3 4, 2 3 -4, 2 3, 2 -3 4, 2 -3 -4, 2 -3, 2, -2 3 4, -2 3 -4, -2 3, -2 -3 4, -2 -3 -4, -2 -3, -2, .}"},
	} {
		p, code := holdInduction(t, aigRead(c.text), c.steps, 4000)
		if code != impl.OK || proofWritten(p) != c.want {
			t.Errorf("%s: code %d, %s, want %s", what, code, proofWritten(p), c.want)
		}
		if p.Kind == impl.Open && len(p.Inputs) != p.Steps+1 {
			t.Errorf("%s: %d inputs of %d steps", what, len(p.Inputs), p.Steps)
		}
	}
}

// A counter of three bits that goes from 4 to 0 never comes to 7; from 5 on it would, and it comes to 5 from nowhere.
func TestInductionCounting(t *testing.T) {
	n := oneClock(nil, "reg0 '100 eq(0,1) '001 add(0,3) '000 choose(2,5,4) '111 ne(0,7)|r=000<6@0||8")
	a, code := impl.Blast(n)
	if code != impl.OK {
		t.Fatalf("%s: code %d", netWritten(n), code)
	}
	for steps := 1; steps <= 4; steps++ {
		// the first row is behind a tick: in it the counter may be 6, but with another one ahead of it that is not 7 it may not
		p, code := holdInduction(t, a, steps, 4000)
		want := impl.Open
		if steps > 1 {
			want = impl.Proved
		}
		if code != impl.OK || p.Kind != want {
			t.Errorf("%d steps: code %d, %s", steps, code, proofWritten(p))
		}
	}
}

func TestInductionFaults(t *testing.T) {
	const low, high = -1 << 63, 1<<63 - 1
	bare := aigRead("e | c | l=0<7@0 | 3,5 | o:4")
	for what, a := range notGraphs() {
		for _, steps := range []int{1, 0, 16, 17} {
			for _, work := range []int{1, 0, 4001} {
				wantsInduction(t, what, a, steps, work, impl.ErrBad)
			}
		}
	}
	for _, work := range []int{1, 4000, 0, 4001} {
		wantsInduction(t, "two clocks", aigRead("i | c d | l=0<2@0 | | | k:4"), 1, work, impl.ErrKind)
		for _, steps := range []int{0, 17, -1, low, high} {
			wantsInduction(t, "the toggle", aigRead(theToggle), steps, work, impl.ErrRange)
		}
	}
	for work, want := range map[int]int{1: impl.ErrMissing, 4000: impl.ErrMissing, 0: impl.ErrRange, 4001: impl.ErrRange, low: impl.ErrRange, high: impl.ErrRange} {
		for _, steps := range []int{1, 15, 16} {
			wantsInduction(t, "no checks", bare, steps, work, want)
		}
	}
	// as many steps as can be are one too many for it, unless it fails
	for steps, want := range map[int]int{1: impl.OK, 14: impl.OK, 15: impl.OK, 16: impl.ErrRange, 17: impl.ErrRange} {
		p := wantsInduction(t, "true", aigRead("| | | | | k:1"), steps, 10, want)
		if want == impl.OK && (p.Kind != impl.Proved || p.Steps != steps || len(p.Traces) != steps+1) {
			t.Errorf("true, %d steps: %s", steps, proofWritten(p))
		}
		wantsInduction(t, "proved", aigRead(keptZero), steps, 10, want)
		wantsInduction(t, "open", aigRead(neverOpen), steps, 100, want)
	}
	for number := 14; number <= 17; number++ {
		want := impl.OK
		if number > 16 {
			want = impl.ErrRange
		}
		p := wantsInduction(t, "a counter", counting(5, number, false), 16, 10, want)
		if want == impl.OK && (p.Kind != impl.Fails || p.Steps != number) {
			t.Errorf("counting to %d: %s", number, proofWritten(p))
		}
	}
	// it is open, with the counter one step ahead of that many
	p := wantsInduction(t, "a counter", counting(5, 17, false), 15, 10, impl.OK)
	if proofWritten(p) != "open 15 [               ] [10000] {}" {
		t.Error(proofWritten(p))
	}
}

// The codes of Unroll of one step more, with the latches as inputs; what Bounded tells comes ahead of them.
func TestInductionOfUnrollFaults(t *testing.T) {
	for size, want := range map[int]int{998: impl.OK, 999: impl.ErrLong, 1000: impl.ErrLong} {
		a := aigRead(keptZero)
		a.Latches[1].Name = strings.Repeat("n", size)
		wantsInduction(t, "a long latch", a, 2, 10, want)
		wantsInduction(t, "a long latch, too many steps", a, 16, 10, impl.ErrRange)
		wantsInduction(t, "a long latch, no work", a, 2, 0, impl.ErrRange)
		a.Latches[0].Init = 1
		if p := wantsInduction(t, "a long latch, it fails", a, 2, 10, impl.OK); p.Kind != impl.Fails {
			t.Errorf("%d: %s", size, proofWritten(p))
		}
	}
	for steps, want := range map[int]int{7: impl.OK, 8: impl.OK, 9: impl.ErrLong, 10: impl.ErrLong} {
		a := withCheck(aigRead("i"), 1)
		a.Ins[0] = strings.Repeat("n", 998)
		wantsInduction(t, "a long input", a, steps, 10, want)
		a = aigRead("i | | | | | k:1")
		a.Checks[0].Name = strings.Repeat("n", 998)
		wantsInduction(t, "a long check", a, steps, 10, want)
	}
	// 2048 inputs: with the latches, of a step more
	for _, c := range []struct{ ins, latches, steps, want int }{
		// more than MaxVars ahead of that
		{1024, 0, 1, impl.ErrMany}, {1023, 0, 1, impl.OK}, {1000, 47, 1, impl.OK}, {1000, 48, 1, impl.ErrMany}, {1000, 49, 1, impl.ErrMany}, {127, 0, 15, impl.OK}, {128, 0, 15, impl.ErrMany}, {0, 2047, 15, impl.OK}, {0, 2048, 15, impl.ErrMany}, {0, 2048, 16, impl.ErrRange},
	} {
		a := withCheck(wideAig(c.ins, c.latches, 0, 0, 0, min(c.latches, 1)), 1)
		for i := range a.Latches {
			a.Latches[i].Next = 0
		}
		wantsInduction(t, fmt.Sprint(c), a, c.steps, 4000, c.want)
	}
	for outs, want := range map[int]int{1024: impl.OK, 1025: impl.ErrMany} {
		a := wideAig(1, 0, 0, outs, 0, 0)
		wantsInduction(t, fmt.Sprint(outs, " outs"), withCheck(a, 1), 1, 10, want)
	}
	for ands, want := range map[int]int{4096: impl.OK, 4097: impl.ErrMany} {
		wantsInduction(t, fmt.Sprint(ands, " ands"), withCheck(rowOfAnds(ands, 0, false), 1), 1, 10, want)
	}
}

// The work is that of each search alone; the last one may need more than those of Bounded.
func TestInductionWork(t *testing.T) {
	for steps, needed := range map[int]int{1: 15, 2: 63, 3: 255, 4: 1023} {
		a := aigRead(neverBoth)
		wantsInduction(t, "searched for", a, steps, needed, impl.OK)
		wantsInduction(t, "searched for", a, steps, needed-1, impl.ErrWork)
		wantsBounded(t, "searched for", a, steps, needed-1, impl.OK)
	}
	wantsInduction(t, "4095 searches", aigRead(neverBoth), 5, 4000, impl.ErrWork)
	for work, want := range map[int]int{1: impl.ErrWork, 2: impl.OK, 10: impl.OK} {
		wantsInduction(t, "open", aigRead(keptZero), 1, work, want)
		wantsInduction(t, "proved", aigRead(keptZero), 2, work, impl.OK)
	}
}

// Induction with any work is what is told.
func TestInductionAsTold(t *testing.T) {
	counts := map[string]int{}
	for seed := range uint64(2000) {
		d := draughtsmanOf(seed + 6000)
		a := d.provable(d.below(4), d.below(6), d.below(20))
		p, code := holdInduction(t, a, 1+d.below(5), 1+d.below([]int{8, 40, 4000}[seed%3]))
		counts[fmt.Sprint("code ", code)]++
		counts[strings.Fields(proofWritten(p))[0]]++
		counts["open with a state"] += numberIf(p.Kind == impl.Open && strings.Contains(p.State, "1"))
		counts["open with inputs"] += numberIf(p.Kind == impl.Open && strings.Contains(strings.Join(p.Inputs, ""), "1"))
		counts["long trace"] += numberIf(p.Kind == impl.Proved && len(p.Traces[p.Steps]) > 5)
	}
	wantsOften(t, counts, 20, []string{"code 0", fmt.Sprint("code ", impl.ErrWork), "fails", "proved", "open", "open with a state", "open with inputs", "long trace"})
}

// Induction of bent graphs, with any numbers.
func TestBentGraphsInduction(t *testing.T) {
	const low, high = -1 << 63, 1<<63 - 1
	codes := map[int]int{}
	for seed := range uint64(1200) {
		d := draughtsmanOf(seed + 7000)
		a := d.watched(d.below(3), d.below(4), d.below(10))
		switch seed % 4 {
		case 0:
			a = d.aig(d.below(3), d.below(3), d.below(10))
		case 1:
			a.Checks = nil
		case 2:
			d.bent(&a)
		}
		steps := []int{1, 2, 3, 3, 4, 4, 16, 0, 17, low, high}[d.below(11)]
		work := []int{1, 1, 2, 4, 4000, 4000, 0, 4001, low, high}[d.below(10)]
		_, code := holdInduction(t, a, steps, work)
		codes[code]++
	}
	for _, code := range []int{impl.OK, impl.ErrBad, impl.ErrKind, impl.ErrRange, impl.ErrMissing, impl.ErrWork} {
		if codes[code] < 10 {
			t.Errorf("codes %v", codes)
		}
	}
}
