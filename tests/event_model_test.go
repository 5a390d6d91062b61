package tests

import (
	"fmt"
	"slices"
	"strings"

	"loop.example/g00031/impl"
)

// place is a bit of a signal (of a memory a word, with bit 0).
type place struct{ sig, word, bit int }

// setting is a bit or a word that a process gives a new value to.
type setting struct {
	proc int
	at   place
	bits string
}

// eventModel is a second telling of chapter 6: all in texts, each process with a copy of all values.
type eventModel struct {
	f       impl.Flat
	now     [][]string
	drivers map[int]string
	todo    map[int][]impl.St
	over    map[int]int
	woken   map[int]bool
	later   []setting
	met     map[impl.Race]bool
	time    int
	res     impl.SimRes
}

// running is one run of a process.
type running struct {
	m    *eventModel
	proc int
	own  [][]string
	sets []setting
	read map[int]bool
}

func allCopied(values [][]string) [][]string {
	var all [][]string
	for _, words := range values {
		all = append(all, slices.Clone(words))
	}
	return all
}

func (m *eventModel) isMem(sig int) bool { return m.f.Signals[sig].Kind == impl.SigMem }

func (m *eventModel) isWire(sig int) bool {
	return m.f.Signals[sig].Kind == impl.SigWire || m.f.Signals[sig].Kind == impl.SigOut
}

// indexTold is -1 of what is not known or not below most.
func indexTold(bits string, most int) int {
	if strings.ContainsAny(bits, "xz") {
		return -1
	}
	n := 0
	for _, bit := range bits {
		if n = 2*n + int(bit-'0'); n >= most {
			return -1
		}
	}
	return n
}

func (r *running) value(e impl.Ex) string {
	var kids []string
	for _, kid := range e.Kids {
		kids = append(kids, r.value(kid))
	}
	switch e.Op {
	case impl.OpBits:
		return e.Bits
	case impl.OpSig:
		r.read[e.N] = true
		return r.own[e.N][0]
	case impl.OpMem:
		r.read[e.N] = true
		if at := indexTold(kids[0], len(r.own[e.N])); at >= 0 {
			return r.own[e.N][at]
		}
		return strings.Repeat("x", e.Width)
	case impl.OpPick:
		r.read[e.N] = true
		if at := indexTold(kids[0], r.m.f.Signals[e.N].Width); at >= 0 {
			return impl.Part(r.own[e.N][0], at, at)
		}
		return "x"
	case impl.OpChoose:
		return impl.Choose(kids[0], kids[1], kids[2])
	case impl.OpJoin:
		return impl.Join(kids)
	case impl.OpPart:
		return impl.Part(kids[0], e.N+e.Width-1, e.N)
	case impl.OpSize:
		return impl.Resize(kids[0], e.Width, e.Signed)
	}
	if len(kids) == 1 {
		return impl.Unary(e.Op, kids[0])
	}
	return impl.Binary(e.Op, e.Signed, kids[0], kids[1])
}

// settings are what an StSet or StLater comes to, a bit or a word each.
func (r *running) settings(s impl.St) []setting {
	bits := r.value(s.Exs[0])
	low := s.Low
	if len(s.Exs) == 2 {
		index := r.value(s.Exs[1])
		if r.m.isMem(s.N) {
			if word := indexTold(index, r.m.f.Signals[s.N].Depth); word >= 0 {
				return []setting{{r.proc, place{s.N, word, 0}, bits}}
			}
			return nil
		}
		if low = indexTold(index, r.m.f.Signals[s.N].Width); low < 0 {
			return nil
		}
	}
	var all []setting
	for i := range len(bits) {
		all = append(all, setting{r.proc, place{s.N, 0, low + i}, impl.Part(bits, i, i)})
	}
	return all
}

func (m *eventModel) putInto(values [][]string, s setting) {
	if m.isMem(s.at.sig) {
		values[s.at.sig][s.at.word] = s.bits
		return
	}
	bits := []byte(values[s.at.sig][0])
	bits[len(bits)-1-s.at.bit] = s.bits[0]
	values[s.at.sig][0] = string(bits)
}

// run does statements till none is left, or one stops it, and answers what is left.
func (r *running) run(todo []impl.St) []impl.St {
	for len(todo) > 0 {
		s := todo[0]
		todo = todo[1:]
		switch s.Kind {
		case impl.StBlock:
			todo = append(slices.Clone(s.Kids), todo...)
		case impl.StSet:
			for _, set := range r.settings(s) {
				r.sets = append(r.sets, set)
				r.m.putInto(r.own, set)
			}
		case impl.StLater:
			r.m.later = append(r.m.later, r.settings(s)...)
		case impl.StIf:
			if strings.Contains(r.value(s.Exs[0]), "1") {
				todo = append([]impl.St{s.Kids[0]}, todo...)
			} else {
				todo = append([]impl.St{s.Kids[1]}, todo...)
			}
		case impl.StWait:
			if r.m.over[r.proc] = r.m.time + s.N; s.N == 0 {
				r.m.woken[r.proc] = true
			}
			return todo
		case impl.StStop:
			r.m.res.Stopped = true
			return nil
		}
	}
	return nil
}

func (m *eventModel) runOf(proc int) running {
	r := running{m: m, proc: proc, own: allCopied(m.now), read: map[int]bool{}}
	p := m.f.Procs[proc]
	switch p.Kind {
	case impl.ProcAssign:
		z := strings.Repeat("z", m.f.Signals[p.Body.N].Width)
		high := len(z) - p.Body.Low - p.Body.Wide
		m.drivers[proc] = z[:high] + r.value(p.Body.Exs[0]) + z[:p.Body.Low]
	case impl.ProcStart:
		m.todo[proc] = r.run(m.todo[proc])
	default:
		r.run([]impl.St{p.Body})
	}
	return r
}

// mentions tells whether a signal stands in an Ex of a statement.
func mentions(s impl.St, sig int) bool {
	var inExs func(list []impl.Ex) bool
	inExs = func(list []impl.Ex) bool {
		return slices.ContainsFunc(list, func(e impl.Ex) bool {
			return e.N == sig && (e.Op == impl.OpSig || e.Op == impl.OpMem || e.Op == impl.OpPick) || inExs(e.Kids)
		})
	}
	return inExs(s.Exs) || slices.ContainsFunc(s.Kids, func(kid impl.St) bool { return mentions(kid, sig) })
}

// wakeFrom wakes by all that differs from what was.
func (m *eventModel) wakeFrom(was [][]string) {
	for sig := range m.now {
		if slices.Equal(was[sig], m.now[sig]) {
			continue
		}
		for number, p := range m.f.Procs {
			switch {
			case p.Kind == impl.ProcAssign || p.Kind == impl.ProcComb:
				if mentions(p.Body, sig) {
					m.woken[number] = true
				}
			case p.Kind == impl.ProcOn && p.Clock == sig && m.now[sig][0] == "1":
				m.woken[number] = true
			}
		}
	}
}

// tellRaces takes what was met at one moment.
func (m *eventModel) tellRaces(races []impl.Race) {
	slices.SortFunc(races, func(a, b impl.Race) int {
		return slices.Compare([]int{a.Kind, a.Sig, a.A, a.B}, []int{b.Kind, b.Sig, b.A, b.B})
	})
	for _, race := range races {
		if !m.met[race] && len(m.res.Races) < 64 {
			m.met[race] = true
			race.Time = m.time
			m.res.Races = append(m.res.Races, race)
		}
	}
}

func clashesTold(kind int, sets []setting) []impl.Race {
	var races []impl.Race
	for _, a := range sets {
		for _, b := range sets {
			if a.proc < b.proc && a.at == b.at {
				races = append(races, impl.Race{Kind: kind, Sig: a.at.sig, A: a.proc, B: b.proc})
			}
		}
	}
	return races
}

func (m *eventModel) delta(order []int) int {
	woken := m.woken
	m.woken = map[int]bool{}
	m.res.Deltas++
	was := allCopied(m.now)
	var runs []running
	for _, proc := range order {
		if !woken[proc] {
			continue
		}
		if m.res.Runs++; m.res.Runs > 20000 {
			return impl.ErrWork
		}
		runs = append(runs, m.runOf(proc))
	}
	var sets []setting
	for _, r := range runs {
		sets = append(sets, r.sets...)
	}
	for _, set := range sets {
		m.putInto(m.now, set)
	}
	for sig := range m.now {
		if m.isWire(sig) {
			m.now[sig][0] = m.resolved(sig)
		}
	}
	races := clashesTold(impl.RaceSet, sets)
	for _, set := range sets {
		for _, r := range runs {
			kind := m.f.Procs[r.proc].Kind
			if r.proc != set.proc && r.read[set.at.sig] && (kind == impl.ProcOn || kind == impl.ProcStart) {
				races = append(races, impl.Race{Kind: impl.RaceRead, Sig: set.at.sig, A: set.proc, B: r.proc})
			}
		}
	}
	m.tellRaces(races)
	m.wakeFrom(was)
	return impl.OK
}

func (m *eventModel) resolved(sig int) string {
	list := []string{strings.Repeat("z", m.f.Signals[sig].Width)}
	for number, p := range m.f.Procs {
		if driver, has := m.drivers[number]; has && p.Body.N == sig {
			list = append(list, driver)
		}
	}
	return impl.Resolve(list)
}

func (m *eventModel) doLater() {
	was := allCopied(m.now)
	for _, set := range m.later {
		m.putInto(m.now, set)
	}
	m.tellRaces(clashesTold(impl.RaceLater, m.later))
	m.later = nil
	m.wakeFrom(was)
}

func (m *eventModel) step(stims []impl.Stim, order []int, ahead [][]string) int {
	was := allCopied(m.now)
	for _, stim := range stims {
		if stim.Time == m.time {
			m.now[stim.Sig][0] = stim.Bits
		}
	}
	m.wakeFrom(was)
	for proc, time := range m.over {
		if time == m.time && m.time > 0 {
			m.woken[proc] = true
		}
	}
	for deltas := 0; len(m.woken) > 0 || len(m.later) > 0; {
		if len(m.woken) == 0 {
			m.doLater()
			continue
		}
		if deltas++; deltas > 500 {
			return impl.ErrLoop
		}
		if code := m.delta(order); code != impl.OK {
			return code
		}
	}
	return m.told(ahead)
}

func (m *eventModel) told(ahead [][]string) int {
	for sig, words := range m.now {
		for word, bits := range words {
			if bits != ahead[sig][word] {
				m.res.Changes = append(m.res.Changes, impl.Change{Time: m.time, Sig: sig, Word: word, Bits: bits})
			}
		}
	}
	for number, p := range m.f.Procs {
		if p.Kind == impl.ProcCheck {
			r := running{m: m, proc: number, own: m.now, read: map[int]bool{}}
			if !strings.Contains(r.value(p.Body.Exs[0]), "1") {
				m.res.Fails = append(m.res.Fails, impl.Fail{Time: m.time, Name: p.Name})
			}
		}
	}
	if len(m.res.Changes) > 8192 || len(m.res.Fails) > 8192 {
		return impl.ErrMany
	}
	return impl.OK
}

// nextTime is -1 where nothing is left.
func (m *eventModel) nextTime(stims []impl.Stim) int {
	next := -1
	take := func(time int) {
		if time > m.time && (next < 0 || time < next) {
			next = time
		}
	}
	for _, stim := range stims {
		take(stim.Time)
	}
	for _, time := range m.over {
		take(time)
	}
	return next
}

func (m *eventModel) begin() (inits [][]string) {
	for _, s := range m.f.Signals {
		begins := s.Init
		if s.Kind == impl.SigWire || s.Kind == impl.SigOut {
			begins = strings.Repeat("z", s.Width)
		}
		inits = append(inits, slices.Repeat([]string{s.Init}, max(1, s.Depth)))
		m.now = append(m.now, slices.Repeat([]string{begins}, max(1, s.Depth)))
	}
	for number, p := range m.f.Procs {
		if p.Kind == impl.ProcStart {
			m.todo[number] = []impl.St{p.Body}
		}
		if p.Kind == impl.ProcAssign || p.Kind == impl.ProcComb || p.Kind == impl.ProcStart {
			m.woken[number] = true
		}
	}
	return inits
}

func argumentsTold(f impl.Flat, stims []impl.Stim, until int, order []int) int {
	if len(stims) > 4096 {
		return impl.ErrLong
	}
	if !flatTold(f) {
		return impl.ErrBad
	}
	for i, stim := range stims {
		if stim.Time < 0 || stim.Time > 1000000 || i > 0 && stim.Time < stims[i-1].Time {
			return impl.ErrBad
		}
		if stim.Sig < 0 || stim.Sig >= len(f.Signals) || f.Signals[stim.Sig].Kind != impl.SigIn {
			return impl.ErrBad
		}
		if !impl.BitsOK(stim.Bits) || len(stim.Bits) != f.Signals[stim.Sig].Width {
			return impl.ErrBad
		}
	}
	if until < 0 || until > 1000000 {
		return impl.ErrRange
	}
	if sorted := slices.Sorted(slices.Values(order)); len(order) > 0 && !slices.Equal(sorted, rising(len(f.Procs))) {
		return impl.ErrBad
	}
	return impl.OK
}

func rising(count int) []int {
	var all []int
	for i := range count {
		all = append(all, i)
	}
	return all
}

func simulationTold(f impl.Flat, stims []impl.Stim, until int, order []int) (impl.SimRes, int) {
	if code := argumentsTold(f, stims, until, order); code != impl.OK {
		return impl.SimRes{}, code
	}
	if len(order) == 0 {
		order = rising(len(f.Procs))
	}
	m := &eventModel{f: f, drivers: map[int]string{}, todo: map[int][]impl.St{}, over: map[int]int{}, woken: map[int]bool{}, met: map[impl.Race]bool{}}
	ahead := m.begin()
	for {
		if code := m.step(stims, order, ahead); code != impl.OK {
			return impl.SimRes{}, code
		}
		next := m.nextTime(stims)
		if m.res.Stopped || next < 0 || next > until {
			break
		}
		m.time, ahead = next, allCopied(m.now)
	}
	for _, words := range m.now {
		m.res.Final = append(m.res.Final, strings.Join(words, ""))
	}
	m.res.Time = m.time
	return m.res, impl.OK
}

// resShown writes a run out; an empty list is the same as none.
func resShown(r impl.SimRes) string { return fmt.Sprintf("%+v", r) }
