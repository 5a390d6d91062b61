package tests

import (
	"strconv"
	"strings"

	"loop.example/g00031/impl"
)

// flatTold says what FlatOK must answer. What the operations of chapter 2 ask of widths their calls say themselves.

type flatModel struct{ impl.Flat }

// ends counts what is in a flat design, however it is put together.
func (f *flatModel) ends() bool {
	type place struct {
		ex   impl.Ex
		st   impl.St
		deep int
	}
	var open []place
	for _, p := range f.Procs {
		open = append(open, place{st: p.Body, deep: 1})
	}
	for count := 1; len(open) > 0; count++ {
		at := open[len(open)-1]
		open = open[:len(open)-1]
		if count > impl.MaxSize || at.deep > impl.MaxTree || len(at.ex.Kids)+len(at.st.Exs)+len(at.st.Kids) > impl.MaxSize {
			return false
		}
		for _, e := range append(append([]impl.Ex{}, at.ex.Kids...), at.st.Exs...) {
			open = append(open, place{ex: e, deep: at.deep + 1})
		}
		for _, s := range at.st.Kids {
			open = append(open, place{st: s, deep: at.deep + 1})
		}
	}
	return true
}

func zeros(width int) string { return strings.Repeat("0", width) }

func (f *flatModel) signalOf(number int, memory bool) *impl.Signal {
	if number < 0 || number >= len(f.Signals) || (f.Signals[number].Kind == impl.SigMem) != memory {
		return nil
	}
	return &f.Signals[number]
}

// ex answers whether an Ex is right, by an Ex that has the named fields alone and a vector of the width that is told.
func (f *flatModel) ex(e impl.Ex) bool {
	if e.Width < 1 || e.Width > impl.MaxWidth {
		return false
	}
	var kids []string
	for _, kid := range e.Kids {
		if !f.ex(kid) {
			return false
		}
		kids = append(kids, zeros(kid.Width))
	}
	named := impl.Ex{Op: e.Op, Width: e.Width}
	count, answer := 1, ""
	at := func(i int) string {
		if i < len(kids) {
			return kids[i]
		}
		return ""
	}
	switch {
	case e.Op >= impl.OpAnd && e.Op <= impl.OpEither:
		named.Signed = e.Signed && strings.Contains(" 7 8 12 13 ", " "+strconv.Itoa(e.Op)+" ")
		count, answer = 2, impl.Binary(e.Op, e.Signed, at(0), at(1))
	case e.Op >= impl.OpNot && e.Op <= impl.OpNone:
		answer = impl.Unary(e.Op, at(0))
	case e.Op == impl.OpChoose:
		count, answer = 3, impl.Choose(at(0), at(1), at(2))
	case e.Op == impl.OpJoin:
		count, answer = max(len(kids), 1), impl.Join(kids)
	case e.Op == impl.OpPart:
		named.N = e.N
		if e.N >= 0 && e.N < 64 && e.N+e.Width <= len(at(0)) {
			answer = impl.Part(at(0), e.N+e.Width-1, e.N)
		}
	case e.Op == impl.OpSize:
		named.Signed = e.Signed && e.Width > len(at(0))
		if e.Width != len(at(0)) {
			answer = impl.Resize(at(0), e.Width, e.Signed)
		}
	case e.Op == impl.OpBits:
		named.Bits = e.Bits
		count, answer = 0, e.Bits
		if !impl.BitsOK(e.Bits) {
			return false
		}
	case e.Op == impl.OpSig || e.Op == impl.OpMem || e.Op == impl.OpPick:
		named.N = e.N
		s := f.signalOf(e.N, e.Op == impl.OpMem)
		if s == nil {
			return false
		}
		count, answer = numberIf(e.Op != impl.OpSig), zeros(s.Width)
		if e.Op == impl.OpPick {
			answer = "0"
		}
	}
	return len(answer) == e.Width && len(e.Kids) == count && e.N == named.N && e.Signed == named.Signed && e.Bits == named.Bits
}

func (f *flatModel) st(s impl.St, kinds, targets string) bool {
	if s.Kind < 1 || s.Kind > 7 || !strings.Contains(kinds, strconv.Itoa(s.Kind)) {
		return false
	}
	for _, e := range s.Exs {
		if !f.ex(e) {
			return false
		}
	}
	for _, kid := range s.Kids {
		if !f.st(kid, kinds, targets) {
			return false
		}
	}
	exs, sts := len(s.Exs), len(s.Kids)
	plain := s.Low == 0 && s.Wide == 0
	switch s.Kind {
	case impl.StBlock:
		return plain && s.N == 0 && exs == 0
	case impl.StIf:
		return plain && s.N == 0 && exs == 1 && sts == 2
	case impl.StWait:
		return plain && s.N >= 0 && s.N <= 1000000 && exs == 0 && sts == 0
	case impl.StStop:
		return plain && s.N == 0 && exs == 0 && sts == 0
	case impl.StCheck:
		return plain && s.N == 0 && exs == 1 && sts == 0
	}
	if s.N < 0 || s.N >= len(f.Signals) || sts != 0 || exs < 1 || exs > 2 {
		return false
	}
	to := f.Signals[s.N]
	if !strings.Contains(targets, strconv.Itoa(to.Kind)) || s.Exs[0].Width != s.Wide {
		return false
	}
	if to.Kind == impl.SigMem {
		return exs == 2 && s.Low == 0 && s.Wide == to.Width
	}
	if exs == 2 {
		return s.Low == 0 && s.Wide == 1
	}
	return s.Low >= 0 && s.Low < to.Width && s.Low+s.Wide <= to.Width
}

func (f *flatModel) signal(s impl.Signal, place int) bool {
	for _, ahead := range f.Signals[:place] {
		if ahead.Name == s.Name {
			return false
		}
	}
	depth := s.Depth == 0
	if s.Kind == impl.SigMem {
		depth = s.Depth >= 1 && s.Depth <= impl.MaxDepth
	}
	return depth && s.Kind >= 1 && s.Kind <= 5 && s.Name != "" && len(s.Name) <= impl.MaxLine && impl.BitsOK(s.Init) && len(s.Init) == s.Width
}

func (f *flatModel) proc(p impl.Proc, place int) bool {
	kinds, targets, body := "", "45", impl.StBlock
	switch p.Kind {
	case impl.ProcAssign:
		kinds, targets, body = "2", "23", impl.StSet
		if len(p.Body.Exs) > 1 {
			return false
		}
	case impl.ProcComb:
		kinds = "124"
	case impl.ProcOn:
		kinds = "1243"
	case impl.ProcStart:
		kinds = "124356"
	case impl.ProcCheck:
		kinds, body = "7", impl.StCheck
	}
	clock := p.Clock == -1
	if p.Kind == impl.ProcOn {
		s := f.signalOf(p.Clock, false)
		clock = s != nil && s.Width == 1
	}
	name := p.Name == ""
	if p.Kind == impl.ProcCheck {
		name = p.Name != "" && len(p.Name) <= impl.MaxLine
		for _, ahead := range f.Procs[:place] {
			name = name && (ahead.Kind != impl.ProcCheck || ahead.Name != p.Name)
		}
	}
	return clock && name && p.Body.Kind == body && f.st(p.Body, kinds, targets)
}

func flatTold(flat impl.Flat) bool {
	f := &flatModel{Flat: flat}
	if len(f.Signals) > impl.MaxSignals || len(f.Procs) > impl.MaxProcs || !f.ends() {
		return false
	}
	for i, s := range f.Signals {
		if !f.signal(s, i) {
			return false
		}
	}
	for i, p := range f.Procs {
		if !f.proc(p, i) {
			return false
		}
	}
	return true
}
