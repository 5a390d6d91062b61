package tests

import (
	"fmt"
	"slices"
	"strings"
	"testing"

	"loop.example/g00031/impl"
)

// bitTexts are all texts of so many bits, in order.
func bitTexts(bits int) []string {
	var all []string
	for number := range 1 << bits {
		text := ""
		for i := range bits {
			text += fmt.Sprint(number >> (bits - 1 - i) & 1)
		}
		all = append(all, text)
	}
	return all
}

// cutEvenly cuts a text into so many of one length.
func cutEvenly(text string, count int) []string {
	var parts []string
	for i := range count {
		size := len(text) / count
		parts = append(parts, text[i*size:(i+1)*size])
	}
	return parts
}

// ranChecks tells, row by row, whether all checks are 1.
func ranChecks(t *testing.T, a impl.Aig, inputs []string) []bool {
	t.Helper()
	rows, code := impl.AigRun(a, ticking(a, inputs))
	if code != impl.OK {
		t.Fatalf("%s: %q: code %d", aigWritten(a), inputs, code)
	}
	var right []bool
	for _, row := range rows {
		right = append(right, !slices.Contains(row.Checks, "0"))
	}
	return right
}

// leastFailing goes through all inputs of 1, 2 and more steps: the least ones with which a check is 0 in the last row, of as few steps as can be.
func leastFailing(t *testing.T, a impl.Aig, steps int) ([]string, bool) {
	t.Helper()
	for s := 1; s <= steps; s++ {
		for _, text := range bitTexts(s * len(a.Ins)) {
			inputs := cutEvenly(text, s)
			if right := ranChecks(t, a, inputs); !right[s-1] {
				return inputs, true
			}
		}
	}
	return nil, false
}

// beginning is a graph whose latches begin as a state tells.
func beginning(a impl.Aig, state string) impl.Aig {
	a.Latches = slices.Clone(a.Latches)
	for i := range a.Latches {
		a.Latches[i].Init = int(state[i] - '0')
	}
	return a
}

// leastOpen goes through all states and inputs of so many steps and one more: the least ones with which all checks are 1 but in the last row.
func leastOpen(t *testing.T, a impl.Aig, steps int) (string, []string, bool) {
	t.Helper()
	for _, state := range bitTexts(len(a.Latches)) {
		from := beginning(a, state)
		for _, text := range bitTexts((steps + 1) * len(a.Ins)) {
			inputs := cutEvenly(text, steps+1)
			if slices.Index(ranChecks(t, from, inputs), false) == steps {
				return state, inputs, true
			}
		}
	}
	return "", nil, false
}

// holdsAlways goes through all states that a graph comes to, with all that can come in.
func holdsAlways(t *testing.T, a impl.Aig) bool {
	t.Helper()
	first := ""
	for _, l := range a.Latches {
		first += fmt.Sprint(l.Init)
	}
	seen := map[string]bool{first: true}
	for ahead := []string{first}; len(ahead) > 0; ahead = ahead[1:] {
		from := beginning(a, ahead[0])
		for _, input := range bitTexts(len(a.Ins)) {
			rows, code := impl.AigRun(from, ticking(a, []string{input}))
			if code != impl.OK {
				t.Fatalf("%s: code %d", aigWritten(a), code)
			}
			if slices.Contains(rows[0].Checks, "0") {
				return false
			}
			if state := strings.Join(rows[0].Regs, ""); !seen[state] {
				seen[state] = true
				ahead = append(ahead, state)
			}
		}
	}
	return true
}

// holdBoundedRight: promise 15 of one graph and so many steps, by all inputs of these; it tells whether it fails.
func holdBoundedRight(t *testing.T, a impl.Aig, steps int) impl.Proof {
	t.Helper()
	p, code := holdBounded(t, a, steps, 4000)
	if code != impl.OK {
		t.Fatalf("%s: %d steps: code %d", aigWritten(a), steps, code)
	}
	least, fails := leastFailing(t, a, steps)
	want := impl.Proof{Kind: impl.Holds, Steps: steps, Traces: p.Traces}
	if fails {
		want = impl.Proof{Kind: impl.Fails, Steps: len(least), Inputs: least}
		right := ranChecks(t, a, p.Inputs)
		if slices.Index(right, false) != len(right)-1 {
			t.Fatalf("%s: %s: %v", aigWritten(a), proofWritten(p), right)
		}
	}
	if proofShown(p) != proofShown(want) || !fails && len(p.Traces) != steps || !impl.CheckProof(a, p) {
		t.Fatalf("%s: %d steps: %s, but by all inputs %s", aigWritten(a), steps, proofWritten(p), proofWritten(want))
	}
	return p
}

// holdInductionRight: promise 15 of one graph, by all states and inputs; what is proved also by many steps of drawn inputs.
func holdInductionRight(t *testing.T, d *draughtsman, a impl.Aig, steps int) impl.Proof {
	t.Helper()
	bounded := holdBoundedRight(t, a, steps)
	p, code := holdInduction(t, a, steps, 4000)
	if code != impl.OK {
		t.Fatalf("%s: %d steps: code %d", aigWritten(a), steps, code)
	}
	if bounded.Kind == impl.Fails {
		if proofShown(p) != proofShown(bounded) {
			t.Fatalf("%s: %s, but Bounded tells %s", aigWritten(a), proofWritten(p), proofWritten(bounded))
		}
		return p
	}
	if state, inputs, open := leastOpen(t, a, steps); open {
		want := impl.Proof{Kind: impl.Open, Steps: steps, State: state, Inputs: inputs}
		if proofShown(p) != proofShown(want) || impl.CheckProof(a, p) {
			t.Fatalf("%s: %s, but by all states %s", aigWritten(a), proofWritten(p), proofWritten(want))
		}
		return p
	}
	if p.Kind != impl.Proved || p.Steps != steps || len(p.Traces) != steps+1 || !impl.CheckProof(a, p) || !holdsAlways(t, a) {
		t.Fatalf("%s: %d steps: %s", aigWritten(a), steps, proofWritten(p))
	}
	var inputs []string
	for range 100 {
		inputs = append(inputs, d.oneOf(bitTexts(len(a.Ins))...))
	}
	if slices.Contains(ranChecks(t, a, inputs), false) {
		t.Fatalf("%s: %s, but it fails with %q", aigWritten(a), proofWritten(p), inputs)
	}
	return p
}

// fewEnough are steps with at most so many bits of latches and of inputs of a step more.
func (d *draughtsman) fewEnough(a impl.Aig, bits int) int {
	most := 16
	if len(a.Ins) > 0 {
		most = (bits-len(a.Latches))/len(a.Ins) - 1
	}
	return 1 + d.below(max(min(most, 6), 1))
}

// Promise 15 of drawn graphs with few inputs.
func TestProofsAsDrawn(t *testing.T) {
	counts := map[string]int{}
	for seed := range uint64(2000) {
		d := draughtsmanOf(seed + 20000)
		a := d.provable(d.below(3), d.below(5), d.below(14))
		p := holdInductionRight(t, d, a, d.fewEnough(a, 9))
		counts[strings.Fields(proofWritten(p))[0]]++
		counts["fails later"] += numberIf(p.Kind == impl.Fails && p.Steps > 1)
		counts["fails much later"] += numberIf(p.Kind == impl.Fails && p.Steps > 2)
		counts["proved of latches"] += numberIf(p.Kind == impl.Proved && len(a.Latches) > 1)
		counts["proved by a search"] += numberIf(p.Kind == impl.Proved && len(p.Traces[p.Steps]) > 1)
		counts["several checks"] += numberIf(len(a.Checks) > 1 && p.Kind != impl.Fails)
	}
	wantsOften(t, counts, 40, []string{"fails", "proved", "open", "proved of latches", "several checks"})
	wantsOften(t, counts, 15, []string{"fails later", "fails much later", "proved by a search"})
}

// Promise 15 of graphs without inputs, of as many steps as can be.
func TestProofsOfManySteps(t *testing.T) {
	counts := map[string]int{}
	for seed := range uint64(300) {
		d := draughtsmanOf(seed + 30000)
		a := d.watched(0, 2+d.below(5), 4+d.below(20))
		if seed%3 == 0 {
			a = d.winding(0, 2+d.below(5))
		}
		p := holdInductionRight(t, d, a, 15)
		counts[strings.Fields(proofWritten(p))[0]]++
		counts["fails later"] += numberIf(p.Kind == impl.Fails && p.Steps > 3)
		if p.Kind != impl.Fails {
			holdBoundedRight(t, a, 16)
		}
	}
	wantsOften(t, counts, 10, []string{"fails", "proved", "fails later"})
	for number := range 16 {
		d := draughtsmanOf(uint64(number))
		p := holdInductionRight(t, d, counting(4, number, false), 15)
		if (p.Kind == impl.Open) != (number == 0) {
			t.Errorf("%d: %s", number, proofWritten(p))
		}
	}
}

// Promise 15 of all small graphs: an input, a latch, an and and a check of any literals.
func TestProofsOfAllSmall(t *testing.T) {
	d := draughtsmanOf(77)
	counts := map[int]int{}
	for first := range 6 {
		for second := range first + 1 {
			for next := range 8 {
				for check := range 8 {
					for init := range 2 {
						a := aigRead("i | c | l=0<0@0 | 0,0 | | k:0")
						a.Ands[0] = impl.And{A: first, B: second}
						a.Latches[0].Next, a.Latches[0].Init, a.Checks[0].Lit = next, init, check
						counts[holdInductionRight(t, d, a, 1+d.below(2)).Kind]++
					}
				}
			}
		}
	}
	for kind := impl.Fails; kind <= impl.Open; kind++ {
		if counts[kind] < 10 {
			t.Errorf("%v", counts)
		}
	}
}

// isRight tells whether a proof that is taken is right, by all inputs.
func isRight(t *testing.T, a impl.Aig, p impl.Proof) bool {
	t.Helper()
	switch p.Kind {
	case impl.Holds:
		_, fails := leastFailing(t, a, p.Steps)
		return !fails
	case impl.Proved:
		return holdsAlways(t, a)
	case impl.Fails:
		right := ranChecks(t, a, p.Inputs)
		return len(right) == p.Steps && !right[p.Steps-1]
	}
	return false
}

// Promise 15: a proof that is taken, spoilt or not, of the graph that it was told of or of another one, is right.
func TestSpoiltProofs(t *testing.T) {
	counts := map[string]int{}
	for seed := range uint64(5000) {
		d := draughtsmanOf(seed + 40000)
		a := d.provable(d.below(3), d.below(4), d.below(12))
		steps := d.fewEnough(a, 7)
		var p impl.Proof
		if d.below(2) == 0 {
			p, _ = impl.Bounded(a, steps, 4000)
		} else {
			p, _ = impl.Induction(a, steps, 4000)
		}
		kind := strings.Fields(proofWritten(p))[0]
		if d.below(3) == 0 {
			a = d.variant(a)
		}
		whole, _ := impl.Unroll(a, steps, false)
		for range d.below(3) {
			p = d.spoiltProof(p, 1+len(whole.Ins)+len(whole.Ands))
		}
		taken := holdProofCheck(t, a, p)
		if taken && !isRight(t, a, p) {
			t.Fatalf("%s: %s is taken", aigWritten(a), proofWritten(p))
		}
		counts[fmt.Sprint(kind, ": taken ", taken)]++
	}
	wantsOften(t, counts, 100, []string{"holds: taken true", "holds: taken false", "proved: taken true", "proved: taken false", "fails: taken true", "fails: taken false", "open: taken false"})
}

// Proofs of graphs with other traces than those that are searched for: those with a clause more or with those alone that are needed are taken.
func TestOtherTraces(t *testing.T) {
	counts := map[bool]int{}
	for seed := range uint64(1500) {
		d := draughtsmanOf(seed + 50000)
		a := d.puzzled(1+d.below(2), d.below(3), d.below(8))
		steps := d.fewEnough(a, 7)
		p, code := impl.Induction(a, steps, 4000)
		if code != impl.OK || p.Kind != impl.Proved {
			continue
		}
		l := &logician{d.choices}
		at := l.below(len(p.Traces))
		vars, clauses, _ := dueTold(a, at+1, at == steps)
		trace := clausesCopied(p.Traces[at])
		for range 1 + l.below(2) {
			if l.below(2) == 0 {
				trace = slices.Insert(trace, l.below(len(trace)), l.clause(vars, 1+l.below(2)))
			} else if len(trace) > 1 {
				place := l.below(len(trace) - 1)
				trace = slices.Delete(trace, place, place+1)
			}
		}
		p.Traces[at] = trace
		taken := holdProofCheck(t, a, p)
		if taken != impl.CheckTrace(vars, clauses, trace) {
			t.Fatalf("%s: %s: taken %v", aigWritten(a), proofWritten(p), taken)
		}
		counts[taken]++
	}
	if counts[true] < 100 || counts[false] < 50 {
		t.Errorf("%v", counts)
	}
}

// tellsTogether runs both graphs and tells, row by row, whether their outs and checks are the same.
func tellsTogether(t *testing.T, a, b impl.Aig, inputs []string) []bool {
	t.Helper()
	first, code := impl.AigRun(a, ticking(a, inputs))
	second, otherCode := impl.AigRun(b, ticking(b, inputs))
	if code != impl.OK || otherCode != impl.OK {
		t.Fatalf("%s\n%s: codes %d, %d", aigWritten(a), aigWritten(b), code, otherCode)
	}
	var same []bool
	for i := range first {
		same = append(same, slices.Equal(first[i].Outs, second[i].Outs) && slices.Equal(first[i].Checks, second[i].Checks))
	}
	return same
}

// holdEquivRight: promise 16 of two graphs: what is proved by many steps of drawn inputs, what fails by a run of both with its inputs.
func holdEquivRight(t *testing.T, d *draughtsman, a, b impl.Aig, steps int) impl.Proof {
	t.Helper()
	p, code := holdEquiv(t, a, b, steps, 4000)
	if code != impl.OK {
		t.Fatalf("%s\n%s: %d steps: code %d", aigWritten(a), aigWritten(b), steps, code)
	}
	switch p.Kind {
	case impl.Fails:
		same := tellsTogether(t, a, b, p.Inputs)
		if len(same) != p.Steps || slices.Index(same, false) != p.Steps-1 {
			t.Fatalf("%s\n%s: %s: %v", aigWritten(a), aigWritten(b), proofWritten(p), same)
		}
	case impl.Proved:
		for range 4 {
			var inputs []string
			for range 40 {
				text := ""
				for range a.Ins {
					text += d.oneOf("0", "1")
				}
				inputs = append(inputs, text)
			}
			if same := tellsTogether(t, a, b, inputs); slices.Contains(same, false) {
				t.Fatalf("%s\n%s: %s, but %q: %v", aigWritten(a), aigWritten(b), proofWritten(p), inputs, same)
			}
		}
	}
	return p
}

// Promise 16 of drawn pairs of graphs; by all states and inputs where these are few.
func TestEquivAsDrawn(t *testing.T) {
	counts := map[string]int{}
	for seed := range uint64(1200) {
		d := draughtsmanOf(seed + 60000)
		a, b := d.pair(d.below(3), d.below(4), d.below(14))
		both, _ := impl.Miter(a, b)
		steps := d.fewEnough(both, 9)
		p := holdEquivRight(t, d, a, b, steps)
		if len(both.Latches)+(steps+1)*len(both.Ins) <= 9 {
			if again := holdInductionRight(t, d, both, steps); proofShown(again) != proofShown(p) {
				t.Fatalf("%s\n%s: %s, but side by side %s", aigWritten(a), aigWritten(b), proofWritten(p), proofWritten(again))
			}
			counts["by all"]++
		}
		counts[strings.Fields(proofWritten(p))[0]]++
		counts["fails later"] += numberIf(p.Kind == impl.Fails && p.Steps > 1)
		counts["proved of latches"] += numberIf(p.Kind == impl.Proved && len(both.Latches) > 1 && len(both.Ands) > 3)
		counts["proved by a search"] += numberIf(p.Kind == impl.Proved && len(p.Traces[p.Steps]) > 1)
	}
	wantsOften(t, counts, 60, []string{"fails", "proved", "by all", "proved of latches"})
	wantsOften(t, counts, 10, []string{"open", "fails later", "proved by a search"})
}

// Promise 16 of a graph and of what Rewrite and Balance make of it: they never tell unlike things.
func TestEquivOfShaped(t *testing.T) {
	counts := map[string]int{}
	for seed := range uint64(250) {
		d := draughtsmanOf(seed + 70000)
		a := d.steady(1+d.below(2), d.below(3), 5+d.below(25))
		a.Checks = pinsRead("k:2")
		a.Checks[0].Lit = d.lit(1 + len(a.Ins) + len(a.Latches) + len(a.Ands))
		rewritten, _ := impl.Rewrite(a)
		balanced, _ := impl.Balance(a)
		for _, b := range []impl.Aig{rewritten, balanced} {
			p := holdEquivRight(t, d, a, b, 1+d.below(2))
			counts[strings.Fields(proofWritten(p))[0]]++
			both, _ := impl.Miter(a, b)
			counts["not the same at once"] += numberIf(p.Kind == impl.Proved && len(p.Traces[p.Steps]) > 1 && len(both.Ands) > 5)
		}
	}
	if counts["fails"] > 0 {
		t.Errorf("%v", counts)
	}
	wantsOften(t, counts, 20, []string{"proved", "not the same at once"})
}

// Promise 16 of netlists and of what they are optimised and retimed to, and of one machine in three codes.
func TestEquivOfNets(t *testing.T) {
	counts := map[string]int{}
	look := func(d *draughtsman, one, other impl.Net, what string) {
		a, code := impl.Blast(one)
		b, otherCode := impl.Blast(other)
		if code != impl.OK || otherCode != impl.OK || len(a.Clocks) > 1 {
			return
		}
		p, code := impl.Equiv(a, b, 2, 4000)
		counts[fmt.Sprint(what, " ", strings.Fields(proofWritten(p))[0])]++
		if code == impl.OK {
			if again := holdEquivRight(t, d, a, b, 2); again.Kind == impl.Fails {
				t.Fatalf("%s\n%s: %s", netWritten(one), netWritten(other), proofWritten(p))
			}
		}
	}
	for seed := range uint64(60) {
		m, d := machinistOf(seed+80000), draughtsmanOf(seed+80000)
		f := m.fsm(1+m.below(3), 1+m.below(5))
		var nets []impl.Net
		for mode := impl.EncBinary; mode <= impl.EncHot; mode++ {
			n, code := impl.Encode(f, mode)
			if code != impl.OK {
				t.Fatalf("%v: code %d", f, code)
			}
			nets = append(nets, n)
		}
		look(d, nets[0], nets[1], "gray")
		look(d, nets[0], nets[2], "hot")
		small, _ := impl.Optimise(nets[2])
		look(d, nets[2], small, "optimised")
		for _, cell := range impl.Retimable(nets[0]) {
			moved, code := impl.Retime(nets[0], cell)
			if code == impl.OK {
				look(d, nets[0], moved, "retimed")
			}
		}
	}
	wantsOften(t, counts, 20, []string{"gray proved", "hot proved", "optimised proved", "retimed proved"})
}

func proofApart(t *testing.T, p impl.Proof, seen map[any]bool) {
	t.Helper()
	listApart(t, p.Inputs, seen)
	listApart(t, p.Traces, seen)
	for _, trace := range p.Traces {
		clausesApart(t, trace, seen)
	}
}

// Promise 1: no argument is written into, not behind its end either; answers are new memory, and no two lists of one share any; nothing is kept from call to call, and nothing hangs on which goroutine comes first.
func TestProveKeepsArguments(t *testing.T) {
	counts := map[string]int{}
	for seed := range uint64(500) {
		d := draughtsmanOf(seed + 90000)
		drawn, other := d.pair(d.below(3), d.below(4), d.below(14))
		if seed%2 == 0 {
			drawn = d.provable(d.below(3), d.below(4), d.below(14))
		}
		a, b := roomyAig(drawn), roomyAig(other)
		steps := 1 + d.below(3)
		told, _ := impl.Induction(drawn, steps, 4000)
		p := roomyProof(told)
		whole := func() string { return wholeAig(a) + wholeAig(b) + wholeProof(p) }
		before := whole()
		seen := map[any]bool{}
		aigApart(t, a, seen)
		aigApart(t, b, seen)
		proofApart(t, p, seen)
		var answers []string
		for range 3 {
			unrolled, code := impl.Unroll(a, steps, seed%3 == 0)
			aigApart(t, unrolled, seen)
			bounded, boundedCode := impl.Bounded(a, steps, 4000)
			proofApart(t, bounded, seen)
			proved, provedCode := impl.Induction(a, steps, 4000)
			proofApart(t, proved, seen)
			both, bothCode := impl.Miter(a, b)
			aigApart(t, both, seen)
			equal, equalCode := impl.Equiv(b, b, steps, 4000)
			proofApart(t, equal, seen)
			taken := impl.CheckProof(a, p)
			answers = append(answers, fmt.Sprint(aigShown(unrolled), code, proofShown(bounded), boundedCode, proofShown(proved), provedCode, aigShown(both), bothCode, proofShown(equal), equalCode, taken))
			counts[fmt.Sprint("taken ", taken)]++
			counts[strings.Fields(proofWritten(proved))[0]]++
		}
		if whole() != before {
			t.Fatalf("%s: the arguments were changed", before)
		}
		if answers[0] != answers[1] || answers[1] != answers[2] {
			t.Fatalf("%s: another answer", before)
		}
	}
	wantsOften(t, counts, 20, []string{"taken true", "taken false", "fails", "proved", "open"})
}

// Any proof of any graph has an answer.
func TestBentProofs(t *testing.T) {
	const low, high = -1 << 63, 1<<63 - 1
	counts := map[bool]int{}
	for seed := range uint64(2500) {
		d := draughtsmanOf(seed + 100000)
		a := d.provable(d.below(3), d.below(4), d.below(10))
		p, _ := impl.Induction(a, 1+d.below(3), 4000)
		p = proofCopied(p)
		if d.below(3) == 0 {
			d.bent(&a)
		}
		switch d.below(6) {
		case 0:
			p.Steps = []int{low, high, 0, -1, 16, 17, 1 << 32}[d.below(7)]
		case 1:
			p.Kind = []int{low, high, 0, -1, 1, 2, 3, 4, 5}[d.below(9)]
		case 2:
			if len(p.Traces) > 0 {
				at := d.below(len(p.Traces))
				p.Traces[at] = append([][]int{{[]int{0, low, high, 1 << 32, -5000, 5000}[d.below(6)]}}, p.Traces[at]...)
			}
		case 3:
			p.Inputs = append(p.Inputs, d.oneOf("", "0", "1", zeros(1<<17), "\xff"))
		}
		counts[holdProofCheck(t, a, p)]++
	}
	if counts[true] < 300 || counts[false] < 300 {
		t.Errorf("%v", counts)
	}
}
