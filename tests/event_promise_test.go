package tests

import (
	"fmt"
	"strings"
	"testing"

	"loop.example/g00031/impl"
)

// holdSimulated holds one run against what is told of it.
func holdSimulated(t *testing.T, f impl.Flat, stims []impl.Stim, until int, order []int) (impl.SimRes, int) {
	t.Helper()
	got, code := impl.Simulate(f, stims, until, order)
	want, wantCode := simulationTold(f, stims, until, order)
	if code != wantCode || resShown(got) != resShown(want) {
		t.Fatalf("%s%s%v until %d, %v:\ncode %d, want %d\n%s, want\n%s", signalsShown(f), procsShown(f), stims, until, order, code, wantCode, resShown(got), resShown(want))
	}
	return got, code
}

func TestSimulatedAsTold(t *testing.T) {
	counts := map[string]int{}
	for seed := range uint64(6000) {
		b := bencherOf(seed + 1)
		f := b.design()
		var order []int
		if b.below(3) > 0 {
			order = b.order()
		}
		r, code := holdSimulated(t, f, b.stims(), b.below(25), order)
		counts[fmt.Sprint("code ", code)]++
		for _, race := range r.Races {
			counts[fmt.Sprint("race ", race.Kind)]++
		}
		for _, change := range r.Changes {
			counts[fmt.Sprintf("changes at 0 %v%d", change.Time == 0, f.Signals[change.Sig].Kind)]++
		}
		counts[fmt.Sprint("stopped ", r.Stopped)]++
		counts["fails"] += len(r.Fails)
		counts["runs"] += r.Runs
		counts["deltas"] += r.Deltas
	}
	for _, what := range []string{
		"code 0", "code 12", "race 1", "race 2", "race 3", "stopped true", "stopped false", "fails",
		"changes at 0 true1", "changes at 0 true2", "changes at 0 true3", "changes at 0 true4", "changes at 0 true5",
		"changes at 0 false1", "changes at 0 false2", "changes at 0 false3", "changes at 0 false4", "changes at 0 false5",
	} {
		if counts[what] < 20 {
			t.Errorf("%s: only %d", what, counts[what])
		}
	}
}

// Designs of text run as told, too.
func TestElaboratedRuns(t *testing.T) {
	right := 0
	for seed := range uint64(1500) {
		d := designerOf(seed+9, 0)
		text, top := d.design()
		n, _, _ := impl.ParseDesign(text)
		f, code := impl.Elaborate(n, top, d.params())
		if code != impl.OK {
			continue
		}
		var stims []impl.Stim
		for time := range 12 {
			for sig, s := range f.Signals {
				if s.Kind == impl.SigIn && d.below(2) == 0 {
					stims = append(stims, impl.Stim{Time: time, Sig: sig, Bits: impl.BitsOf(int(d.seed), s.Width)})
				}
			}
		}
		if r, code := holdSimulated(t, f, stims, 30, nil); code == impl.OK && r.Runs > 5 {
			right++
		}
	}
	if right < 200 {
		t.Errorf("only %d designs ran", right)
	}
}

// tidy tells whether a run tells no race by which it might hang on the order.
func tidy(r impl.SimRes) bool {
	for _, race := range r.Races {
		if race.Kind != impl.RaceRead {
			return false
		}
	}
	return len(r.Races) < impl.MaxRaces
}

// Promise 6.
func TestOrderOfProcesses(t *testing.T) {
	counts := map[string]int{}
	for seed := range uint64(4000) {
		b := bencherOf(seed + 70000)
		f := b.design()
		stims := b.stims()
		var shown []string
		sure := -1
		for i := range 6 {
			var order []int
			if i > 0 {
				order = b.order()
			}
			r, code := impl.Simulate(f, stims, 24, order)
			shown = append(shown, resShown(r))
			if code == impl.OK && tidy(r) {
				sure = i
				counts[fmt.Sprint("reads ", len(r.Races) > 0)]++
			}
		}
		for i := range shown {
			if shown[i] == shown[0] {
				continue
			}
			counts["hangs on the order"]++
			if sure >= 0 {
				t.Fatalf("%s%s%v: order %d:\n%s\n%s", signalsShown(f), procsShown(f), stims, i, shown[i], shown[sure])
			}
		}
	}
	for _, what := range []string{"reads true", "reads false", "hangs on the order"} {
		if counts[what] < 50 {
			t.Errorf("%s: only %d", what, counts[what])
		}
	}
}

// Promise 6, of a few designs whose every order is run.
func TestEveryOrder(t *testing.T) {
	for what, c := range map[string]struct {
		items string
		hangs bool
	}{
		"no race":          {"on clk { r <= q ; } on clk { q <= r + 1 ; } comb { c = r [ 0 ] ; } wire w ; assign w = c ; assign w = q [ 0 ] ;", false},
		"reads":            {"on clk { r = q ; } on clk { q = r + 1 ; } on clk { m [ q ] = r ; } on clk { c <= m [ r ] ; }", false},
		"other bits":       {"on clk { r [ 1 : 0 ] = q ; } on clk { r [ 3 : 2 ] = i ; } on clk { q [ 0 ] <= 1 ; } on clk { q [ 1 ] <= i ; }", false},
		"one value":        {"on clk { r = 5 ; } on clk { r = 5 ; }", false},
		"waits":            {"start { wait 0 ; wait 3 ; r = i ; stop ; } start { wait 3 ; wait 0 ; q = r ; } on clk { c <= ~ c ; } on c { m [ 1 ] = q ; }", false},
		"sets":             {"on clk { r = 1 ; } on clk { r = 2 ; }", true},
		"sets later":       {"on clk { r <= 1 ; } on clk { r <= 2 ; }", true},
		"sets of one bit":  {"on clk { r [ i ] = 1 ; } on clk { r [ 0 ] = 0 ; } on clk { q = 1 ; }", true},
		"words":            {"on clk { m [ 1 ] = 1 ; } comb { c = m [ 1 ] ; } on clk { m [ i + 1 ] = 2 ; }", true},
		"words set later":  {"on clk { m [ 1 ] <= 1 ; } comb { c = m [ 1 ] ; } on clk { m [ i + 1 ] <= 2 ; }", true},
		"set, and comb":    {"comb { q = r ; } start { q = 5 ; }", true},
		"set later in all": {"on clk { r <= 1 ; c = 1 ; } on clk { c = 1 ; } on c { r <= 2 ; }", false},
	} {
		f := flatOf(t, raceScene+c.items+" end")
		stims := stimsOf(f, "0: clk=0 i=00; 1: clk=1; 2: clk=0 i=01; 3: clk=1; 4: clk=0 i=0x; 5: clk=1")
		first, code := holdSimulated(t, f, stims, 9, nil)
		hangs := false
		everyOrder(len(f.Procs), func(order []int) {
			r, orderCode := holdSimulated(t, f, stims, 9, order)
			hangs = hangs || resShown(r) != resShown(first) || orderCode != code
		})
		if hangs != c.hangs || hangs && tidy(first) {
			t.Errorf("%s: hangs on the order: %v", what, hangs)
		}
	}
}

func everyOrder(count int, do func(order []int)) {
	order := rising(count)
	var from func(at int)
	from = func(at int) {
		if at == count {
			do(order)
		}
		for i := at; i < count; i++ {
			order[at], order[i] = order[i], order[at]
			from(at + 1)
			order[at], order[i] = order[i], order[at]
		}
	}
	from(0)
}

// A flat design with one piece changed runs as told, or is none.
func TestBentRuns(t *testing.T) {
	codes := map[int]int{}
	for seed := range uint64(3000) {
		b := bencherOf(seed + 5)
		f := b.design()
		if len(f.Procs) == 0 {
			continue
		}
		piecesOf(&f).bend(&b.choices)
		_, code := holdSimulated(t, f, b.stims(), 24, nil)
		codes[code]++
	}
	if codes[impl.OK] < 300 || codes[impl.ErrBad] < 300 {
		t.Errorf("codes %v", codes)
	}
}

// roomyFlat is a copy with room behind each list.
func roomyFlat(f impl.Flat) impl.Flat {
	var exs func(list []impl.Ex) []impl.Ex
	exs = func(list []impl.Ex) []impl.Ex {
		all := make([]impl.Ex, 0, len(list)+1)
		for _, e := range list {
			e.Kids = exs(e.Kids)
			all = append(all, e)
		}
		return append(all, impl.Ex{Op: -7})[:len(list)]
	}
	var sts func(list []impl.St) []impl.St
	sts = func(list []impl.St) []impl.St {
		all := make([]impl.St, 0, len(list)+1)
		for _, s := range list {
			s.Exs, s.Kids = exs(s.Exs), sts(s.Kids)
			all = append(all, s)
		}
		return append(all, impl.St{Kind: -7})[:len(list)]
	}
	procs := make([]impl.Proc, 0, len(f.Procs)+1)
	for _, p := range f.Procs {
		p.Body.Exs, p.Body.Kids = exs(p.Body.Exs), sts(p.Body.Kids)
		procs = append(procs, p)
	}
	signals := append(append(make([]impl.Signal, 0, len(f.Signals)+1), f.Signals...), impl.Signal{Kind: -7})
	return impl.Flat{Signals: signals[:len(f.Signals)], Procs: append(procs, impl.Proc{Kind: -7})[:len(f.Procs)]}
}

// roomShown writes a flat design out with what stands behind its lists.
func roomShown(f impl.Flat) string {
	var out strings.Builder
	var exs func(list []impl.Ex)
	exs = func(list []impl.Ex) {
		for _, e := range list[:cap(list)] {
			fmt.Fprint(&out, e.Op, e.Width, e.N, e.Signed, e.Bits, len(e.Kids), " ")
			exs(e.Kids)
		}
	}
	var sts func(list []impl.St)
	sts = func(list []impl.St) {
		for _, s := range list[:cap(list)] {
			fmt.Fprint(&out, s.Kind, s.N, s.Low, s.Wide, len(s.Exs), len(s.Kids), " ")
			exs(s.Exs)
			sts(s.Kids)
		}
	}
	fmt.Fprint(&out, f.Signals[:cap(f.Signals)])
	for _, p := range f.Procs[:cap(f.Procs)] {
		fmt.Fprint(&out, p.Kind, p.Clock, p.Name, p.Body.Kind, p.Body.N, p.Body.Low, p.Body.Wide)
		exs(p.Body.Exs)
		sts(p.Body.Kids)
	}
	return out.String()
}

// Promise 1: no argument is written into, not behind its end either, and answers are new memory.
func TestSimulateKeepsArguments(t *testing.T) {
	for seed := range uint64(300) {
		b := bencherOf(seed + 3000)
		f := roomyFlat(b.design())
		stims := append(b.stims(), impl.Stim{Time: -7}, impl.Stim{Time: -7})
		order := append(b.order(), make([]int, 300)...)
		count := len(f.Procs) * int(seed%2)
		told := roomShown(f) + fmt.Sprint(stims, order)
		r, code := impl.Simulate(f, stims[:len(stims)-2], 24, order[:count])
		if roomShown(f)+fmt.Sprint(stims, order) != told {
			t.Fatalf("%s: the arguments were changed", procsShown(f))
		}
		kept := resShown(r)
		again, codeAgain := impl.Simulate(f, stims[:len(stims)-2], 24, order[:count])
		if code != codeAgain || resShown(again) != kept {
			t.Fatalf("%s: another answer", procsShown(f))
		}
		clear(again.Changes)
		clear(again.Races)
		clear(again.Fails)
		clear(again.Final)
		if resShown(r) != kept {
			t.Fatalf("%s: two answers share memory", procsShown(f))
		}
	}
}

// Many start processes go on at the right times, whatever comes between.
func TestManyWaits(t *testing.T) {
	for seed := range uint64(12) {
		c := &choices{seed: seed*77 + 1}
		f := impl.Flat{Signals: []impl.Signal{{Name: "r", Kind: impl.SigReg, Width: 8, Init: zeros(8)}}}
		for i := range 5 + 20*int(seed) {
			var sts []impl.St
			for range 1 + c.below(5) {
				sts = append(sts, impl.St{Kind: impl.StWait, N: c.below(200)}, setSt(impl.StSet, 0, 0, bitsEx(impl.BitsOf(i, 8))))
			}
			f.Procs = append(f.Procs, impl.Proc{Kind: impl.ProcStart, Clock: -1, Body: blockSt(sts...)})
		}
		if r, code := holdSimulated(t, f, nil, 2000, nil); code != impl.OK || r.Runs <= len(f.Procs) {
			t.Errorf("code %d, %d runs", code, r.Runs)
		}
	}
}
