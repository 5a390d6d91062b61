package tests

import (
	"fmt"
	"strings"
	"testing"

	"loop.example/g00031/impl"
)

// holdBounded holds a bounded proof against what is told of it; where there is one, CheckProof takes it.
func holdBounded(t *testing.T, a impl.Aig, steps, work int) (impl.Proof, int) {
	t.Helper()
	p, code := impl.Bounded(a, steps, work)
	want, wantCode := boundedTold(a, steps, work)
	if code != wantCode || proofShown(p) != proofShown(want) {
		t.Fatalf("%s: %d steps, work %d: code %d, want %d\n%s, want\n%s", aigWritten(a), steps, work, code, wantCode, proofWritten(p), proofWritten(want))
	}
	if code == impl.OK && !impl.CheckProof(a, p) {
		t.Fatalf("%s: %d steps: %s is not taken", aigWritten(a), steps, proofWritten(p))
	}
	return p, code
}

// wantsBounded: the graph has that code, and no proof where it is not OK.
func wantsBounded(t *testing.T, what string, a impl.Aig, steps, work, want int) impl.Proof {
	t.Helper()
	p, code := holdBounded(t, a, steps, work)
	if code != want || code != impl.OK && proofShown(p) != proofShown(impl.Proof{}) {
		t.Errorf("%s: %d steps, work %d: code %d, want %d: %s", what, steps, work, code, want, proofWritten(p))
	}
	return p
}

// neverBoth has a check that the exclusive or of its inputs and its opposite, each made by ands of its own, are never both true: that is searched for.
const neverBoth = "i j | | | 2,5 3,4 7,9 2,4 3,5 13,15 11,17 | | k:19"

func TestBounded(t *testing.T) {
	const (
		shift = "i | c | l=0<2@0 m=0<4@0 n=0<6@0 | | | k:9"
		both  = "i j | c | l=0<2@0 m=0<4@0 | 6,8 | | k:11"
	)
	for what, c := range map[string]struct {
		text  string
		steps int
		want  string
	}{
		"true":                              {"| | | | | k:1", 1, "holds 1 [] [] {.}"},
		"true in all steps":                 {"i | c | l=0<2@0 | | y:4 | k:1", 4, "holds 4 [] [] {. / . / . / .}"},
		"false":                             {"| | | | | k:0", 3, "fails 1 [] [] {}"},
		"false, with inputs":                {"i j | | | | | k:0", 3, "fails 1 [00] [] {}"},
		"an input":                          {"i | | | | | k:2", 3, "fails 1 [0] [] {}"},
		"an input's opposite":               {"i | | | | | k:3", 1, "fails 1 [1] [] {}"},
		"the second one's opposite":         {"i j k | | | | | k:5", 2, "fails 1 [010] [] {}"},
		"an and":                            {"i j | | | 2,4 | | k:6", 1, "fails 1 [00] [] {}"},
		"the opposite of an and":            {"i j | | | 2,4 | | k:7", 1, "fails 1 [11] [] {}"},
		"of an and with an opposite":        {"i j | | | 2,5 | | k:7", 2, "fails 1 [10] [] {}"},
		"an or":                             {"i j | | | 3,5 | | k:7", 1, "fails 1 [00] [] {}"},
		"the least of several":              {"i j | | | 3,5 | | k:6", 1, "fails 1 [01] [] {}"},
		"several checks":                    {"i j | | | | | k:2 q:4", 1, "fails 1 [00] [] {}"},
		"several checks, opposites":         {"i j | | | | | k:3 q:5", 1, "fails 1 [01] [] {}"},
		"the second check alone":            {"i j | | | | | k:1 q:5", 1, "fails 1 [01] [] {}"},
		"the first check alone":             {"i j | | | | | k:5 q:1", 1, "fails 1 [01] [] {}"},
		"several that are true":             {"i j | | | | | k:1 q:1 r:1", 2, "holds 2 [] [] {. / .}"},
		"one of several that is false":      {"i j | | | | | k:1 q:0 r:1", 2, "fails 1 [00] [] {}"},
		"a check and its opposite":          {"i j | | | | | k:2 q:3", 2, "fails 1 [00] [] {}"},
		"a check twice":                     {"i j | | | | | k:3 q:3", 2, "fails 1 [10] [] {}"},
		"an and and its operands":           {"i j | | | 2,4 | | k:2 q:4 r:7", 1, "fails 1 [00] [] {}"},
		"the toggle":                        {theToggle, 3, "fails 1 [1] [] {}"},
		"at the third step":                 {shift, 3, "fails 3 [1 0 0] [] {}"},
		"at the third of many":              {shift, 16, "fails 3 [1 0 0] [] {}"},
		"not yet":                           {shift, 2, "holds 2 [] [] {. / .}"},
		"begun so":                          {"i | c | l=0<2@0 m=1<4@0 n=0<6@0 | | | k:9", 5, "fails 1 [0] [] {}"},
		"begun so, at the second":           {"i | c | l=1<2@0 m=0<4@0 n=0<6@0 | | | k:9", 5, "fails 2 [0 0] [] {}"},
		"the last one's Init is gone":       {"i | c | l=0<2@0 m=0<4@0 n=1<6@0 | | | k:9", 2, "holds 2 [] [] {. / .}"},
		"what comes in with the row counts": {"i | c | l=0<2@0 | 2,5 | | k:7", 2, "holds 2 [] [] {. / .}"},
		"and in the step ahead":             {"i | c | l=0<2@0 m=0<4@0 | 2,7 | | k:9", 2, "fails 1 [1] [] {}"},
		"both of two":                       {both, 2, "fails 1 [11] [] {}"},
		"searched for":                      {neverBoth, 1, "holds 1 [] [] {2, -2, .}"},
		"searched for in each step":         {neverBoth, 2, "holds 2 [] [] {2, -2, . / 2 3 4, 2 3 -4, 2 3, 2 -3 4, 2 -3 -4, 2 -3, 2, -2 3 4, -2 3 -4, -2 3, -2 -3 4, -2 -3 -4, -2 -3, -2, .}"},
	} {
		p, code := holdBounded(t, aigRead(c.text), c.steps, 4000)
		if code != impl.OK || proofWritten(p) != c.want {
			t.Errorf("%s: code %d, %s, want %s", what, code, proofWritten(p), c.want)
		}
		if p.Kind == impl.Fails && len(p.Inputs) != p.Steps {
			t.Errorf("%s: %d inputs of %d steps", what, len(p.Inputs), p.Steps)
		}
	}
}

// Counters fail at the step in which they come to their number, and in none ahead.
func TestBoundedCounting(t *testing.T) {
	for number := range 32 {
		for _, steps := range []int{1, 2, 7, 8, 15, 16} {
			// behind a step it is 1
			at := (number+31)%32 + 1
			p, code := holdBounded(t, counting(5, number, false), steps, 10)
			want := fmt.Sprintf("fails %d [%s] [] {}", at, strings.Repeat(" ", max(at-1, 0)))
			if at > steps {
				want = fmt.Sprintf("holds %d [] [] {.%s}", steps, strings.Repeat(" / .", steps-1))
			}
			if code != impl.OK || proofWritten(p) != want {
				t.Errorf("%d: %d steps: code %d, %s, want %s", number, steps, code, proofWritten(p), want)
			}
		}
	}
	for number := 1; number <= 3; number++ {
		for steps := 1; steps <= 5; steps++ {
			p, code := holdBounded(t, counting(2, number, true), steps, 4000)
			if code != impl.OK || (p.Kind == impl.Fails) != (steps >= number) {
				t.Errorf("%d: %d steps: code %d, %s", number, steps, code, proofWritten(p))
			}
			if want := fmt.Sprintf("fails %d [%s] [] {}", number, strings.TrimSpace(strings.Repeat("1 ", number))); steps >= number && proofWritten(p) != want {
				t.Errorf("%d: %d steps: %s, want %s", number, steps, proofWritten(p), want)
			}
		}
	}
}

func TestBoundedFaults(t *testing.T) {
	const low, high = -1 << 63, 1<<63 - 1
	toggle := aigRead(theToggle)
	bare := aigRead("e | c | l=0<7@0 | 3,5 | o:4")
	for what, a := range notGraphs() {
		for _, steps := range []int{1, 0, 17} {
			for _, work := range []int{1, 0, 4001} {
				wantsBounded(t, what, a, steps, work, impl.ErrBad)
			}
		}
	}
	for _, work := range []int{1, 100, 4000, 0, 4001, low} {
		wantsBounded(t, "two clocks", aigRead("i | c d | l=0<2@0 | | | k:4"), 1, work, impl.ErrKind)
		wantsBounded(t, "two clocks, no checks", aigRead("i | c d | l=0<2@0"), 17, work, impl.ErrKind)
		for _, steps := range []int{0, 17, -1, low, high} {
			wantsBounded(t, "the toggle", toggle, steps, work, impl.ErrRange)
			wantsBounded(t, "no checks", bare, steps, work, impl.ErrRange)
		}
	}
	for work, want := range map[int]int{1: impl.ErrMissing, 2: impl.ErrMissing, 3999: impl.ErrMissing, 4000: impl.ErrMissing, 0: impl.ErrRange, -1: impl.ErrRange, 4001: impl.ErrRange, low: impl.ErrRange, high: impl.ErrRange, 1 << 32: impl.ErrRange, 1<<32 + 1: impl.ErrRange} {
		for _, steps := range []int{1, 3, 16} {
			wantsBounded(t, "no checks", bare, steps, work, want)
			wantsBounded(t, "nothing", impl.Aig{}, steps, work, want)
			done := want
			if want == impl.ErrMissing {
				done = impl.OK
			}
			wantsBounded(t, "true", aigRead("| | | | | k:1"), steps, work, done)
		}
	}
	wantsBounded(t, "no checks and too many variables", wideAig(2048, 0, 0, 1, 0, 0), 1, 10, impl.ErrMissing)
	// the codes of Unroll of all steps, ahead of all else, also where the first step would fail
	long := aigRead("e | | | | | k:2")
	long.Ins[0] = strings.Repeat("n", 998)
	for steps, want := range map[int]int{1: impl.OK, 9: impl.OK, 10: impl.ErrLong, 16: impl.ErrLong, 17: impl.ErrRange} {
		wantsBounded(t, "a long name", long, steps, 10, want)
	}
	wantsBounded(t, "a long name, no work", long, 10, 0, impl.ErrLong)
	wantsBounded(t, "a short one, no work", long, 9, 0, impl.ErrRange)
	latch := aigRead(theToggle)
	latch.Latches[0].Name = strings.Repeat("n", 1000)
	wantsBounded(t, "a latch of any length", latch, 16, 10, impl.OK)
	for steps, want := range map[int]int{1: impl.OK, 2: impl.OK, 3: impl.ErrMany, 16: impl.ErrMany} {
		many := wideAig(683, 0, 0, 0, 1, 0)
		many.Checks[0].Lit = 2
		wantsBounded(t, "many inputs", many, steps, 4000, want)
		many = wideAig(1, 0, 0, 683, 1, 0)
		wantsBounded(t, "many outs", many, steps, 4000, want)
		wantsBounded(t, "many checks", wideAig(1, 0, 0, 0, 683, 0), steps, 4000, want)
	}
	wantsBounded(t, "too many ands that are not needed", withCheck(rowOfAnds(4097, 0, false), 2), 2, 10, impl.ErrMany)
	wantsBounded(t, "too many ands and no checks, no work", rowOfAnds(4097, 0, false), 2, 0, impl.ErrMany)
}

// withCheck has that literal as its one check.
func withCheck(a impl.Aig, lit int) impl.Aig {
	a.Checks = []impl.Pin{{Name: "k", Lit: lit}}
	return a
}

// More variables than MaxVars are told where they are come to, and no sooner.
func TestBoundedMany(t *testing.T) {
	for _, c := range []struct{ ins, check, steps, want, kind int }{
		// of inputs alone: 1 and all inputs
		{2047, 1, 1, impl.OK, impl.Holds}, {2048, 1, 1, impl.ErrMany, 0}, {1023, 1, 2, impl.OK, impl.Holds}, {1024, 1, 2, impl.ErrMany, 0}, {1024, 1, 1, impl.OK, impl.Holds}, {127, 1, 16, impl.OK, impl.Holds}, {128, 1, 16, impl.ErrMany, 0},
		// what fails at once is told, whatever comes behind
		{1024, 3, 2, impl.OK, impl.Fails}, {128, 3, 16, impl.OK, impl.Fails}, {128, 0, 16, impl.OK, impl.Fails}, {2048, 3, 1, impl.ErrMany, 0}, {2048, 0, 1, impl.ErrMany, 0},
	} {
		p := wantsBounded(t, fmt.Sprint(c), withCheck(wideAig(c.ins, 0, 0, 0, 0, 0), c.check), c.steps, 4000, c.want)
		if p.Kind != c.kind {
			t.Errorf("%v: %s", c, proofWritten(p))
		}
	}
	// ands that outs need count, too; what nothing needs does not
	for _, told := range []bool{false, true} {
		for ands, want := range map[int]int{1847: impl.OK, 1848: impl.ErrMany} {
			a := withCheck(rowOfAnds(ands, 0, told), 1)
			a.Ins = append(a.Ins, wideAig(200, 0, 0, 0, 0, 0).Ins[100:]...)
			for i := range a.Ands {
				a.Ands[i] = impl.And{A: 2*(200+i) + 1, B: 2 + 2*(i%199)}
			}
			if told {
				a.Outs[0].Lit = 2 * (200 + ands)
			} else {
				want = impl.OK
			}
			wantsBounded(t, fmt.Sprint(ands, " ands, told ", told), a, 1, 4000, want)
		}
	}
	// those that are made of the checks count: of 1000 inputs 1000 checks make 999 ands behind the others
	for ins, want := range map[int]int{1024: impl.OK, 1025: impl.ErrMany} {
		a := wideAig(ins, 0, 0, 0, ins, 0)
		for i := range a.Checks {
			a.Checks[i].Lit = 2 + 2*i
		}
		wantsBounded(t, fmt.Sprint(ins, " checks"), a, 1, 4000, want)
	}
	// the graph has as many ands as can be, and one more is made
	full := rowOfAnds(impl.MaxAnds, 0, true)
	full.Checks = pinsRead("k:2 q:4")
	wantsBounded(t, "an and more", full, 1, 4000, impl.ErrMany)
}

// As many searches as are needed, and one fewer, as they come.
func TestBoundedWork(t *testing.T) {
	// the inputs of the steps ahead are decided first, though nothing hangs on them
	for steps, needed := range map[int]int{1: 3, 2: 15, 3: 63, 4: 255, 5: 1023} {
		a := aigRead(neverBoth)
		wantsBounded(t, "searched for", a, steps, needed, impl.OK)
		wantsBounded(t, "searched for", a, steps, needed-1, impl.ErrWork)
	}
	wantsBounded(t, "4095 searches", aigRead(neverBoth), 6, 4000, impl.ErrWork)
	// step 1 is searched for, step 2 fails
	a := aigRead("i j | c | l=0<1@0 m=0<6@0 | 2,5 3,4 11,13 2,4 3,5 17,19 15,21 | | k:23 q:9")
	for work, want := range map[int]int{1: impl.ErrWork, 2: impl.ErrWork, 3: impl.ErrWork, 20: impl.OK} {
		p := wantsBounded(t, "fails at 2", a, 2, work, want)
		if want == impl.OK && proofWritten(p) != "fails 2 [00 00] [] {}" {
			t.Errorf("work %d: %s", work, proofWritten(p))
		}
	}
	// it fails at step 1 by few searches; more are needed for the steps behind it, which nobody asks
	wide := withCheck(wideAig(100, 0, 0, 0, 0, 0), 2)
	for work, want := range map[int]int{99: impl.ErrWork, 100: impl.OK} {
		for _, steps := range []int{1, 2, 16} {
			p := wantsBounded(t, "fails at 1", wide, steps, work, want)
			if want == impl.OK && p.Kind != impl.Fails {
				t.Errorf("work %d: %s", work, proofWritten(p))
			}
		}
	}
	// what bad does not need is searched for, too: an and of a check, or one that was made on the way to 0
	three := aigRead("i j | | | | y:2 | k:2 q:4")
	never(&three, []int{2, 4})
	for what, c := range map[string]struct {
		a      impl.Aig
		needed int
	}{
		"an and of a check":       {three, 4},
		"an and on the way":       {aigRead("i j | | | | | k:2 q:4 r:0"), 4},
		"one that stood there":    {aigRead("i j | | | 4,2 | y:6 | k:2 q:4 r:0"), 4},
		"two on the way":          {aigRead("i j k | | | | | k:2 q:4 r:6 s:0"), 6},
		"0 ahead of the others":   {aigRead("i j k | | | | | s:0 k:2 q:4 r:6"), 4},
		"0 behind the first":      {aigRead("i j k | | | | | k:2 s:0 q:4 r:6"), 4},
		"0 behind the second":     {aigRead("i j k | | | | | k:2 q:4 s:0 r:6"), 5},
		"1 makes none":            {aigRead("i j | | | | | k:2 q:1 r:0"), 3},
		"a check again":           {aigRead("i j | | | | | k:2 q:2 r:0"), 3},
		"an opposite on the way":  {aigRead("i j | | | | | k:2 q:3 r:4"), 3},
		"an opposite behind them": {aigRead("i j | | | 2,4 | | k:2 q:4 r:7"), 4},
	} {
		wantsBounded(t, what, c.a, 1, c.needed-1, impl.ErrWork)
		if p := wantsBounded(t, what, c.a, 1, c.needed, impl.OK); p.Kind != impl.Fails || strings.Contains(p.Inputs[0], "1") {
			t.Errorf("%s: %s", what, proofWritten(p))
		}
	}
}

// Bounded with any work is what is told.
func TestBoundedAsTold(t *testing.T) {
	counts := map[string]int{}
	for seed := range uint64(2000) {
		d := draughtsmanOf(seed + 3000)
		a := d.provable(d.below(4), d.below(6), d.below(20))
		p, code := holdBounded(t, a, 1+d.below(6), 1+d.below([]int{8, 40, 4000}[seed%3]))
		counts[fmt.Sprint("code ", code)]++
		counts[strings.Fields(proofWritten(p))[0]]++
		counts["fails later"] += numberIf(p.Kind == impl.Fails && p.Steps > 1)
		counts["long trace"] += numberIf(p.Kind == impl.Holds && len(p.Traces[len(p.Traces)-1]) > 5)
	}
	wantsOften(t, counts, 20, []string{"code 0", fmt.Sprint("code ", impl.ErrWork), "holds", "fails", "fails later", "long trace"})
}

// Bounded of bent graphs, with any numbers.
func TestBentGraphsBounded(t *testing.T) {
	const low, high = -1 << 63, 1<<63 - 1
	codes := map[int]int{}
	for seed := range uint64(1200) {
		d := draughtsmanOf(seed + 4000)
		a := d.watched(d.below(3), d.below(4), d.below(10))
		switch seed % 4 {
		case 0:
			a = d.aig(d.below(3), d.below(3), d.below(10))
		case 1:
			a.Checks = nil
		case 2:
			d.bent(&a)
		}
		steps := []int{1, 2, 3, 3, 4, 4, 16, 0, 17, low, high}[d.below(11)]
		work := []int{1, 1, 2, 4, 4000, 4000, 0, 4001, low, high}[d.below(10)]
		_, code := holdBounded(t, a, steps, work)
		codes[code]++
	}
	for _, code := range []int{impl.OK, impl.ErrBad, impl.ErrKind, impl.ErrRange, impl.ErrMissing, impl.ErrWork} {
		if codes[code] < 10 {
			t.Errorf("codes %v", codes)
		}
	}
}

// As much as there can be comes to an end.
func TestBoundedGreat(t *testing.T) {
	for what, a := range map[string]impl.Aig{
		"many of all":  wideAig(60, 60, 8192, 100, 100, 1),
		"many latches": wideAig(1, 2000, 40, 100, 100, 1),
		"a row":        withCheck(rowOfAnds(512, 0, true), 2*(100+512)),
		"with latches": withCheck(rowOfAnds(60, 1, true), 2*(101+60)+1),
	} {
		for _, steps := range []int{1, 16} {
			p, code := impl.Bounded(a, steps, 4000)
			want, wantCode := boundedTold(a, steps, 4000)
			if code != wantCode || proofShown(p) != proofShown(want) {
				t.Errorf("%s: %d steps: code %d, want %d", what, steps, code, wantCode)
			}
		}
	}
}
