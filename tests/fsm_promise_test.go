package tests

import (
	"fmt"
	"slices"
	"strings"
	"testing"

	"loop.example/g00031/impl"
)

// stepsTold are the steps of a netlist whose inputs, one behind the other, are those numbers; its clock ticks in each.
func stepsTold(n impl.Net, inputs []int) []impl.Step {
	var widths []int
	for _, in := range n.Ins {
		widths = append(widths, in.Width)
	}
	var steps []impl.Step
	for _, i := range inputs {
		step := impl.Step{Ins: cutTold(impl.BitsOf(i, sumTold(widths)), widths)}
		for range n.Clocks {
			step.Ticks = append(step.Ticks, true)
		}
		steps = append(steps, step)
	}
	return steps
}

// rowsJoined are all outs and checks of each row one behind the other.
func rowsJoined(rows []impl.Row) []string {
	var all []string
	for _, row := range rows {
		all = append(all, strings.Join(row.Outs, "")+strings.Join(row.Checks, ""))
	}
	return all
}

// holdTells: a machine tells what a netlist does.
func holdTells(t *testing.T, n impl.Net, f impl.Fsm, inputs []int) {
	t.Helper()
	rows, code := impl.NetRun(n, stepsTold(n, inputs))
	told, fsmCode := holdFsmRun(t, f, inputs)
	if code != impl.OK || fsmCode != impl.OK || !slices.Equal(rowsJoined(rows), told) {
		t.Fatalf("%s\n%s\n%v: codes %d, %d\n%v, but the machine tells\n%v", netShown(n), fsmWritten(f), inputs, code, fsmCode, rowsJoined(rows), told)
	}
}

// holdMinimal: the minimal machine tells the same; its states are all come to, no two of them alike; made minimal again it is the same.
func holdMinimal(t *testing.T, f, made impl.Fsm, inputs []int) {
	t.Helper()
	told, code := impl.FsmRun(f, inputs)
	other, otherCode := impl.FsmRun(made, inputs)
	if code != impl.OK || otherCode != impl.OK || !slices.Equal(told, other) {
		t.Fatalf("%s\n%s\n%v: codes %d, %d\n%v, but the minimal one tells\n%v", fsmWritten(f), fsmWritten(made), inputs, code, otherCode, told, other)
	}
	if len(made.States) > len(f.States) || slices.Contains(reachedTold(made), false) {
		t.Fatalf("%s\n%s\nhas states without need", fsmWritten(f), fsmWritten(made))
	}
	for a, row := range unlikeTold(made) {
		for b := range row {
			if row[b] != (a != b) {
				t.Fatalf("%s\n%s\n%d and %d", fsmWritten(f), fsmWritten(made), a, b)
			}
		}
	}
	if again, code := impl.Minimise(made); code != impl.OK || fsmShown(again) != fsmShown(made) {
		t.Fatalf("%s\n%s\nmade minimal again:\n%s", fsmWritten(f), fsmWritten(made), fsmWritten(again))
	}
}

// holdCodes: the netlists of each code tell what the machine does.
func holdCodes(t *testing.T, f impl.Fsm, inputs []int) {
	t.Helper()
	for mode := impl.EncBinary; mode <= impl.EncHot; mode++ {
		n, code := holdEncoded(t, f, mode)
		if code != impl.OK {
			t.Fatalf("%s\nmode %d: code %d", fsmWritten(f), mode, code)
		}
		holdTells(t, n, f, inputs)
	}
}

// Promise 11 of netlists of all kinds of cells, and each machine as told.
func TestMachinesAsNets(t *testing.T) {
	counts := map[string]int{}
	for seed := range uint64(1500) {
		w := wirerOf(seed + 1)
		n := w.stated(w.below(25))
		if !impl.NetOK(n) {
			t.Fatalf("%s: no netlist", netShown(n))
		}
		f, code := holdMachine(t, n)
		counts[fmt.Sprint("code ", code)]++
		if code != impl.OK {
			continue
		}
		m := machinistOf(seed)
		inputs := m.inputs(f, 30)
		holdTells(t, n, f, inputs)
		made, _ := holdMinimised(t, f)
		holdMinimal(t, f, made, inputs)
		holdTells(t, n, made, inputs)
		if len(made.States) <= 16 {
			holdCodes(t, made, inputs)
		}
		for _, c := range n.Cells {
			counts[fmt.Sprint("op ", c.Op, c.Signed)]++
		}
		counts[fmt.Sprint("ins ", f.Ins)]++
		counts[fmt.Sprint("clocks ", len(n.Clocks))]++
		counts["many states"] += numberIf(len(f.States) > 8)
		counts["fewer states"] += numberIf(len(made.States) < len(f.States))
		counts["some fewer states"] += numberIf(len(made.States) < len(f.States) && len(made.States) > 1)
	}
	wantsOften(t, counts, 20, append(allCellOps(), "code 0", "code 7", "code 10", "ins 0", "ins 1", "ins 5", "clocks 0", "clocks 1", "many states", "fewer states", "some fewer states"))
}

// Promise 11 of machines of which many states are alike.
func TestMachinesMinimised(t *testing.T) {
	counts := map[string]int{}
	for seed := range uint64(2500) {
		m := machinistOf(seed + 40)
		states := 1 + m.below(20)
		f := m.fsm(1+m.below(min(states, 8)), states)
		wantsFsm(t, fsmWritten(f), f, true)
		made, _ := holdMinimised(t, f)
		inputs := m.inputs(f, 40)
		holdMinimal(t, f, made, inputs)
		counts["fewer"] += numberIf(len(made.States) < len(f.States))
		counts["as many"] += numberIf(len(made.States) == len(f.States) && len(f.States) > 1)
		counts["not all come to"] += numberIf(slices.Contains(reachedTold(f), false))
		counts["several left"] += numberIf(len(made.States) < len(f.States) && len(made.States) > 2)
		counts["the same now and not later"] += numberIf(sameNow(made))
		counts["another order"] += numberIf(!slices.IsSortedFunc(made.States, func(a, b string) int {
			return slices.Index(f.States, a) - slices.Index(f.States, b)
		}))
	}
	wantsOften(t, counts, 100, []string{"fewer", "as many", "not all come to", "several left", "the same now and not later", "another order"})
}

// sameNow tells whether two states of a minimal machine tell the same.
func sameNow(f impl.Fsm) bool {
	for a := range f.Outs {
		for b := range a {
			if slices.Equal(f.Outs[a], f.Outs[b]) {
				return true
			}
		}
	}
	return false
}

// everyFsm gives all machines of so many states that tell one bit.
func everyFsm(ins, states int, give func(f impl.Fsm)) {
	f := impl.Fsm{Ins: ins, OutBits: 1}
	for s := range states {
		f.States = append(f.States, impl.BitsOf(s, 4))
		f.Next = append(f.Next, make([]int, 1<<ins))
		f.Outs = append(f.Outs, slices.Repeat([]string{"0"}, 1<<ins))
	}
	var fill func(place int)
	fill = func(place int) {
		s, i := place>>ins, place%(1<<ins)
		if s == states {
			give(f)
			return
		}
		for next := range states {
			for _, out := range []string{"0", "1"} {
				f.Next[s][i], f.Outs[s][i] = next, out
				fill(place + 1)
			}
		}
	}
	fill(0)
}

// tellSame goes through all that two machines come to together: whether the states tell the same, those in which they begin among them.
func tellSame(f, g impl.Fsm) bool {
	list := [][2]int{{0, 0}}
	for k := 0; k < len(list); k++ {
		a, b := list[k][0], list[k][1]
		if !slices.Equal(f.Outs[a], g.Outs[b]) {
			return false
		}
		for i := range f.Next[a] {
			if pair := [2]int{f.Next[a][i], g.Next[b][i]}; !slices.Contains(list, pair) {
				list = append(list, pair)
			}
		}
	}
	return true
}

// Promise 11: of all machines with fewer states than a minimal one none tells the same, state by state.
func TestNoMachineWithFewerStates(t *testing.T) {
	for ins := range 2 {
		var smaller []impl.Fsm
		for states := 1; states <= 2; states++ {
			everyFsm(ins, states, func(f impl.Fsm) { smaller = append(smaller, fsmCopied(f)) })
		}
		counts := map[int]int{}
		for seed := range uint64(4000) {
			m := machinistOf(seed + 7000)
			f := m.fsm(1+m.below(4), 4+m.below(4))
			if f.Ins != ins || f.OutBits != 1 {
				continue
			}
			made, _ := holdMinimised(t, f)
			counts[len(made.States)]++
			if !tellSame(f, made) {
				t.Fatalf("%s\n%s\ntell unlike things", fsmWritten(f), fsmWritten(made))
			}
			for _, g := range smaller {
				if len(g.States) < len(made.States) && tellSame(made, g) {
					t.Fatalf("%s\n%s\ntell the same", fsmWritten(made), fsmWritten(g))
				}
			}
		}
		if counts[2] < 10 || counts[3] < 5 || counts[4] < 1 {
			t.Errorf("ins %d: %v", ins, counts)
		}
	}
}

// All machines of two states are made minimal, run and encoded as told.
func TestEveryFsmOfTwoStates(t *testing.T) {
	all := 0
	everyFsm(1, 2, func(f impl.Fsm) {
		all++
		inputs := machinistOf(uint64(all)).inputs(f, 12)
		made, _ := holdMinimised(t, f)
		holdMinimal(t, f, made, inputs)
		holdCodes(t, f, inputs)
		holdCodes(t, made, inputs)
	})
	if all != 256 {
		t.Errorf("%d", all)
	}
}

// Promise 11 of machines of all sizes in each code.
func TestMachinesEncoded(t *testing.T) {
	counts := map[int]int{}
	for seed := range uint64(300) {
		m := machinistOf(seed + 500)
		states := 1 + m.below(18)
		f := m.fsm(states, states)
		counts[states]++
		holdCodes(t, f, m.inputs(f, 30))
	}
	for _, states := range []int{1, 2, 3, 4, 5, 8, 9, 16, 17} {
		if counts[states] < 4 {
			t.Errorf("%d states: only %d", states, counts[states])
		}
	}
}

// What is encoded has a machine that tells the same, with the codes as its states.
func TestMachinesThereAndBack(t *testing.T) {
	for seed := range uint64(200) {
		m := machinistOf(seed + 900)
		states := 1 + m.below(12)
		f, _ := impl.Minimise(m.fsm(states, states))
		for mode := impl.EncBinary; mode <= impl.EncHot; mode++ {
			n, _ := impl.Encode(f, mode)
			back, code := holdMachine(t, n)
			want := fsmCopied(f)
			want.States = stateCodes(mode, len(f.States))
			if code != impl.OK || fsmShown(back) != fsmShown(want) {
				t.Fatalf("%s\nmode %d, code %d: %s", fsmWritten(f), mode, code, fsmWritten(back))
			}
		}
	}
}

// Promise 11 of netlists that were designs, optimised and retimed or not, by how many states they have and how many of them are needed.
func TestMachinesOfDesigns(t *testing.T) {
	for text, want := range map[string][2]int{
		"module top ( in clk , in [ 2 ] coin , out tea ) reg [ 3 ] r = 0 ; on clk { if r >= 5 { r <= 0 ; } else { r <= r + coin ; } } assign tea = r >= 5 ; check low = r < 6 ; end":                              {8, 7},
		"module top ( in clk , in e , out y ) reg [ 3 ] r = 0 ; on clk { r <= { r [ 1 : 0 ] , e } ; } assign y = r == 5 ; end":                                                                                    {8, 4},
		"module top ( in clk , in car , out go ) reg [ 4 ] r = 9 ; on clk { if r == 0 { if car { r <= 9 ; } } else { r <= r - 1 ; } } assign go = r [ 3 ] ; end":                                                  {10, 10},
		"module top ( in clk , in [ 3 ] a , in b , in c , out [ 3 ] y , out p ) reg [ 3 ] r = 7 ; reg q = 0 ; on clk { if b { r <= a ; } q <= c ^ q ; } assign y = r + a ; assign p = q ; check k = r != a ; end": {16, 16},
		"module top ( in clk , in up , out [ 2 ] y ) reg [ 2 ] r = 0 ; reg [ 2 ] d = 0 ; on clk { if up { r <= r + 1 ; } else { r <= r - 1 ; } d <= r ; } assign y = r ; end":                                     {9, 4},
		"module top ( in [ 2 ] a , in [ 3 ] b , out [ 3 ] y ) assign y = a * b ; end":                                                                                                                             {1, 1},
	} {
		n := netOf(t, text)
		f, code := holdMachine(t, n)
		if code != impl.OK {
			t.Fatalf("%s: code %d", text, code)
		}
		made, _ := holdMinimised(t, f)
		if len(f.States) != want[0] || len(made.States) != want[1] {
			t.Errorf("%s: %d states, %d needed", text, len(f.States), len(made.States))
		}
		inputs := machinistOf(uint64(len(text))).inputs(f, 100)
		holdTells(t, n, f, inputs)
		holdMinimal(t, f, made, inputs)
		holdCodes(t, f, inputs)
		holdCodes(t, made, inputs)
		small, _ := impl.Optimise(n)
		other, _ := holdMachine(t, small)
		holdTells(t, n, other, inputs)
		for _, at := range impl.Retimable(small) {
			moved, _ := impl.Retime(small, at)
			if other, code := holdMachine(t, moved); code == impl.OK {
				holdTells(t, n, other, inputs)
				least, _ := holdMinimised(t, other)
				holdMinimal(t, other, least, inputs)
			}
		}
	}
}

// A machine with one piece changed is one where the chapter's rules say so, and all is as told.
func TestBentMachines(t *testing.T) {
	right, wrong := 0, 0
	for seed := range uint64(3000) {
		m := machinistOf(seed + 20000)
		states := 1 + m.below(8)
		f := m.fsm(1+m.below(states), states)
		inputs := m.inputs(f, 5)
		m.bent(&f)
		ok := fsmTold(f)
		wantsFsm(t, fsmShown(f), f, ok)
		if ok {
			right++
		} else {
			wrong++
		}
		holdFsmRun(t, f, inputs)
		holdMinimised(t, f)
		holdEncoded(t, f, m.below(5))
	}
	if right < 300 || wrong < 1000 {
		t.Errorf("%d right, %d wrong", right, wrong)
	}
}

// A netlist with one piece changed has the machine that is told, or is none.
func TestBentNetsMachined(t *testing.T) {
	codes := map[int]int{}
	for seed := range uint64(2000) {
		w := wirerOf(seed + 30000)
		n := w.stated(1 + w.below(15))
		if len(n.Outs) == 0 {
			continue
		}
		bentNet(&w.choices, &n)
		_, code := holdMachine(t, n)
		codes[code]++
	}
	if codes[impl.OK] < 100 || codes[impl.ErrBad] < 500 {
		t.Errorf("codes %v", codes)
	}
}

// roomyFsm is a copy with room behind each list.
func roomyFsm(f impl.Fsm) impl.Fsm {
	states := append(slices.Clone(f.States), "behind")
	next := append(slices.Clone(f.Next), []int{-7})
	outs := append(slices.Clone(f.Outs), []string{"behind"})
	for s := range f.Next {
		next[s] = append(slices.Clone(next[s]), -7)[:len(next[s])]
		outs[s] = append(slices.Clone(outs[s]), "behind")[:len(outs[s])]
	}
	return impl.Fsm{Ins: f.Ins, OutBits: f.OutBits, States: states[:len(f.States)], Next: next[:len(f.Next)], Outs: outs[:len(f.Outs)]}
}

// wholeFsm writes a machine out with what stands behind its lists.
func wholeFsm(f impl.Fsm) string {
	text := fmt.Sprint(f.Ins, f.OutBits, f.States[:cap(f.States)])
	for _, row := range f.Next[:cap(f.Next)] {
		text += fmt.Sprint(row[:cap(row)])
	}
	for _, row := range f.Outs[:cap(f.Outs)] {
		text += fmt.Sprint(row[:cap(row)])
	}
	return text
}

// listApart tells where a list shares memory with one that was seen, behind its end too.
func listApart[T any](t *testing.T, list []T, seen map[any]bool) {
	t.Helper()
	list = list[:cap(list)]
	for i := range list {
		if seen[&list[i]] {
			t.Fatal("two lists share memory")
		}
		seen[&list[i]] = true
	}
}

func fsmApart(t *testing.T, f impl.Fsm, seen map[any]bool) {
	t.Helper()
	listApart(t, f.States, seen)
	listApart(t, f.Next, seen)
	listApart(t, f.Outs, seen)
	for _, row := range f.Next {
		listApart(t, row, seen)
	}
	for _, row := range f.Outs {
		listApart(t, row, seen)
	}
}

// Promise 1: no argument is written into, not behind its end either; answers are new memory, and no two lists of one share any.
func TestFsmKeepsArguments(t *testing.T) {
	for seed := range uint64(300) {
		m := machinistOf(seed + 60)
		states := 1 + m.below(12)
		f := roomyFsm(m.fsm(1+m.below(states), states))
		inputs := append(m.inputs(f, 9), -7)[:9]
		told := wholeFsm(f) + fmt.Sprint(inputs[:10])
		seen := map[any]bool{}
		fsmApart(t, f, seen)
		listApart(t, inputs, seen)
		var answers []string
		for range 2 {
			impl.FsmOK(f)
			run, _ := impl.FsmRun(f, inputs)
			listApart(t, run, seen)
			made, _ := impl.Minimise(f)
			fsmApart(t, made, seen)
			again, _ := impl.Minimise(made)
			fsmApart(t, again, seen)
			n, _ := impl.Encode(f, 1+int(seed%3))
			netApart(t, n, seen)
			answers = append(answers, fmt.Sprint(run, made, again, n))
		}
		if told != wholeFsm(f)+fmt.Sprint(inputs[:10]) {
			t.Fatalf("%s: the arguments were changed", told)
		}
		if answers[0] != answers[1] {
			t.Fatalf("%s: another answer", told)
		}
	}
}

func TestMachineKeepsArguments(t *testing.T) {
	done := 0
	for seed := range uint64(300) {
		w := wirerOf(seed + 70)
		n := roomyNet(w.stated(w.below(20)))
		told := wholeNet(n)
		f, code := impl.Machine(n)
		again, _ := impl.Machine(n)
		if wholeNet(n) != told {
			t.Fatalf("%s: the arguments were changed", told)
		}
		if fsmShown(f) != fsmShown(again) {
			t.Fatalf("%s: another answer", told)
		}
		seen := map[any]bool{}
		fsmApart(t, f, seen)
		fsmApart(t, again, seen)
		done += numberIf(code == impl.OK)
	}
	if done < 100 {
		t.Errorf("only %d", done)
	}
}
