package tests

import (
	"fmt"
	"strings"
	"testing"

	"loop.example/g00031/impl"
)

// holdElaborated holds one design against what is told of it, and answers the code.
func holdElaborated(t *testing.T, text, top string, params []impl.Param) (impl.Flat, int) {
	t.Helper()
	n, code, at := impl.ParseDesign(text)
	if code != impl.OK {
		t.Fatalf("%s\n: %d at %d", text, code, at)
	}
	flat, code := impl.Elaborate(n, top, params)
	want, wantCode := elaborationTold(n, top, params)
	if code != wantCode {
		t.Fatalf("%s\n%v: code %d, want %d", text, params, code, wantCode)
	}
	if !sameFlat(flat, want) {
		t.Fatalf("%s\n%v:\n%v, want\n%v", text, params, flat, want)
	}
	if code == impl.OK && (!impl.FlatOK(flat) || !flatTold(flat)) {
		t.Fatalf("%s\n%v: FlatOK %v, told %v", text, params, impl.FlatOK(flat), flatTold(flat))
	}
	return flat, code
}

// Promise 5.
func TestElaboratedIsFlat(t *testing.T) {
	codes := map[int]int{}
	for seed := range uint64(3000) {
		d := designerOf(seed+1, 60*int(seed%4))
		text, top := d.design()
		_, code := holdElaborated(t, text, top, d.params())
		codes[code]++
	}
	t.Log(codes)
	for _, code := range []int{impl.OK, impl.ErrName, impl.ErrTwice, impl.ErrWidth, impl.ErrKind, impl.ErrRange, impl.ErrMissing} {
		if codes[code] < 5 {
			t.Errorf("code %d: only %d designs", code, codes[code])
		}
	}
	if codes[impl.OK] < 500 {
		t.Errorf("only %d designs are right", codes[impl.OK])
	}
}

// tallyOf counts the operations, statements and processes of a flat design.
func tallyOf(f impl.Flat, counts map[string]int) {
	var exs func(list []impl.Ex)
	exs = func(list []impl.Ex) {
		for _, e := range list {
			counts[fmt.Sprint("op ", e.Op, e.Signed)]++
			exs(e.Kids)
		}
	}
	var sts func(list []impl.St)
	sts = func(list []impl.St) {
		for _, s := range list {
			counts[fmt.Sprint("st ", s.Kind, len(s.Exs))]++
			exs(s.Exs)
			sts(s.Kids)
		}
	}
	for _, s := range f.Signals {
		counts[fmt.Sprint("signal ", s.Kind, s.Signed)]++
	}
	for _, p := range f.Procs {
		counts[fmt.Sprint("proc ", p.Kind)]++
		sts([]impl.St{p.Body})
	}
}

// The designs that are made for the promise have something of everything.
func TestElaboratedHasAll(t *testing.T) {
	counts := map[string]int{}
	for seed := range uint64(1000) {
		d := designerOf(seed+1, 0)
		text, top := d.design()
		f, _ := holdElaborated(t, text, top, d.params())
		tallyOf(f, counts)
	}
	var wanted []string
	for op := impl.OpAnd; op <= impl.OpPick; op++ {
		wanted = append(wanted, fmt.Sprint("op ", op, false))
	}
	for _, op := range []int{impl.OpDiv, impl.OpRem, impl.OpLt, impl.OpLe, impl.OpSize} {
		wanted = append(wanted, fmt.Sprint("op ", op, true))
	}
	wanted = append(wanted, "st 1 0", "st 2 1", "st 2 2", "st 3 1", "st 3 2", "st 4 1", "st 5 0", "st 6 0", "st 7 1")
	for kind := 1; kind <= 5; kind++ {
		wanted = append(wanted, fmt.Sprint("signal ", kind, true), fmt.Sprint("signal ", kind, false), fmt.Sprint("proc ", kind))
	}
	for _, what := range wanted {
		if counts[what] < 10 {
			t.Errorf("%s: only %d", what, counts[what])
		}
	}
}

// flatPieces are all numbers, texts and truths of a flat design that can be changed.
type flatPieces struct {
	numbers []*int
	signs   []*bool
	texts   []*string
	exs     []*impl.Ex
	sts     []*impl.St
}

func (p *flatPieces) ex(e *impl.Ex) {
	p.exs = append(p.exs, e)
	p.numbers = append(p.numbers, &e.Op, &e.Width, &e.N)
	p.signs = append(p.signs, &e.Signed)
	p.texts = append(p.texts, &e.Bits)
	for i := range e.Kids {
		p.ex(&e.Kids[i])
	}
}

func (p *flatPieces) st(s *impl.St) {
	p.sts = append(p.sts, s)
	p.numbers = append(p.numbers, &s.Kind, &s.N, &s.Low, &s.Wide)
	for i := range s.Exs {
		p.ex(&s.Exs[i])
	}
	for i := range s.Kids {
		p.st(&s.Kids[i])
	}
}

func piecesOf(f *impl.Flat) *flatPieces {
	p := &flatPieces{}
	for i := range f.Signals {
		s := &f.Signals[i]
		p.numbers = append(p.numbers, &s.Kind, &s.Width, &s.Depth)
		p.signs = append(p.signs, &s.Signed)
		p.texts = append(p.texts, &s.Name, &s.Init)
	}
	for i := range f.Procs {
		p.numbers = append(p.numbers, &f.Procs[i].Kind, &f.Procs[i].Clock)
		p.texts = append(p.texts, &f.Procs[i].Name)
		p.st(&f.Procs[i].Body)
	}
	return p
}

// bend changes one piece of a flat design.
func (p *flatPieces) bend(c *choices) {
	switch kind := c.below(8); {
	case kind < 3:
		*p.numbers[c.below(len(p.numbers))] += []int{1, -1, 2, -2, 31}[c.below(5)]
	case kind == 3:
		sign := p.signs[c.below(len(p.signs))]
		*sign = !*sign
	case kind == 4:
		text := p.texts[c.below(len(p.texts))]
		*text = c.oneOf("", *text+"0", strings.TrimSuffix(*text, "x"), "x", "z0", *p.texts[c.below(len(p.texts))])
	case kind == 5 && len(p.exs) > 0:
		*p.exs[c.below(len(p.exs))] = exCopied(*p.exs[c.below(len(p.exs))])
	case kind == 6 && len(p.sts) > 0:
		*p.sts[c.below(len(p.sts))] = stCopied(*p.sts[c.below(len(p.sts))])
	case len(p.exs) > 0:
		e := p.exs[c.below(len(p.exs))]
		e.Kids = append(e.Kids[:c.below(len(e.Kids)+1)], exCopied(*p.exs[c.below(len(p.exs))]))
	}
}

func exCopied(e impl.Ex) impl.Ex {
	e.Kids = exsCopied(e.Kids)
	return e
}

func exsCopied(list []impl.Ex) []impl.Ex {
	var all []impl.Ex
	for _, e := range list {
		all = append(all, exCopied(e))
	}
	return all
}

func stCopied(s impl.St) impl.St {
	s.Exs = exsCopied(s.Exs)
	var kids []impl.St
	for _, kid := range s.Kids {
		kids = append(kids, stCopied(kid))
	}
	s.Kids = kids
	return s
}

// A flat design with one piece changed is one where the chapter's rules say so.
func TestBentFlats(t *testing.T) {
	right, wrong := 0, 0
	for seed := range uint64(300) {
		d := designerOf(seed+5, 0)
		text, top := d.design()
		for range 20 {
			n, _, _ := impl.ParseDesign(text)
			f, code := impl.Elaborate(n, top, nil)
			if code != impl.OK {
				break
			}
			piecesOf(&f).bend(&d.choices)
			if got := impl.FlatOK(f); got != flatTold(f) {
				t.Fatalf("%s\n%v: %v", text, f, got)
			} else if got {
				right++
			} else {
				wrong++
			}
		}
	}
	if right < 300 || wrong < 1000 {
		t.Errorf("%d right, %d wrong", right, wrong)
	}
}

// Promise 1: no argument is written into, not behind its end either, and each answer is new memory.
func TestElaborateKeepsArguments(t *testing.T) {
	for seed := range uint64(60) {
		d := designerOf(seed+1, 0)
		text, top := d.design()
		n, _, _ := impl.ParseDesign(text)
		given := append(make([]impl.Param, 0, 9), d.params()...)
		behind := given[len(given):9]
		for i := range behind {
			behind[i] = impl.Param{Name: "behind", Value: 7}
		}
		kept, room := fmt.Sprint(given), roomy(cloned(n))
		f, code := impl.Elaborate(room, top, given)
		if !sameNode(room, n) || !roomKept(room) || fmt.Sprint(given) != kept {
			t.Fatalf("%s: the arguments were changed", text)
		}
		for _, param := range behind {
			if param.Name != "behind" || param.Value != 7 {
				t.Fatalf("%s: written behind the params", text)
			}
		}
		told := fmt.Sprint(f)
		again, codeAgain := impl.Elaborate(n, top, given)
		if code != codeAgain || fmt.Sprint(again) != told {
			t.Fatalf("%s: another answer", text)
		}
		seen := map[any]bool{}
		holdApart(t, f, seen)
		holdApart(t, again, seen)
		flatKept(t, f)
	}
}

// holdApart tells where two lists share memory, behind their ends too.
func holdApart(t *testing.T, f impl.Flat, seen map[any]bool) {
	put := func(place any) {
		if seen[place] {
			t.Fatal("two lists share memory")
		}
		seen[place] = true
	}
	var exs func(list []impl.Ex)
	exs = func(list []impl.Ex) {
		for i := range list[:cap(list)] {
			put(&list[:cap(list)][i])
		}
		for _, e := range list {
			exs(e.Kids)
		}
	}
	var sts func(list []impl.St)
	sts = func(list []impl.St) {
		for i := range list[:cap(list)] {
			put(&list[:cap(list)][i])
		}
		for _, s := range list {
			exs(s.Exs)
			sts(s.Kids)
		}
	}
	for _, p := range f.Procs {
		exs(p.Body.Exs)
		sts(p.Body.Kids)
	}
	for i := range f.Signals {
		put(&f.Signals[i])
	}
	for i := range f.Procs {
		put(&f.Procs[i])
	}
}

// flatKept: FlatOK writes into nothing.
func flatKept(t *testing.T, f impl.Flat) {
	told := fmt.Sprint(f)
	f.Signals = append(append(make([]impl.Signal, 0, len(f.Signals)+3), f.Signals...), impl.Signal{Name: "behind"})[:len(f.Signals)]
	f.Procs = append(append(make([]impl.Proc, 0, len(f.Procs)+3), f.Procs...), impl.Proc{Name: "behind"})[:len(f.Procs)]
	impl.FlatOK(f)
	if fmt.Sprint(f) != told || f.Signals[:len(f.Signals)+1][len(f.Signals)].Name != "behind" || f.Procs[:len(f.Procs)+1][len(f.Procs)].Name != "behind" {
		t.Fatal("FlatOK writes into its argument")
	}
}
