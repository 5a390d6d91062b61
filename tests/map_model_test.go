package tests

import (
	"fmt"
	"slices"

	"loop.example/g00031/impl"
)

// mapTold says what MapOK must answer.
func mapTold(m impl.Mapped) bool {
	if len(m.Luts) > 1024 || len(m.Ins)+len(m.Regs) > 2048 || len(m.Outs) > 2048 || len(m.Checks) > 2048 || len(m.Clocks) > 8 {
		return false
	}
	isSource := func(source, last int) bool { return 0 <= source && source <= last }
	last := len(m.Ins) + len(m.Regs) + len(m.Luts) - 1
	for i, l := range m.Luts {
		if len(l.In) > 4 || len(setOf(l.In)) < len(l.In) || l.Table < 0 || l.Table >= []int{2, 4, 16, 256, 65536}[len(l.In)] {
			return false
		}
		for _, source := range l.In {
			if !isSource(source, len(m.Ins)+len(m.Regs)+i-1) {
				return false
			}
		}
	}
	var regs, outs, checks []string
	for _, r := range m.Regs {
		if !isSource(r.Src, last) || r.Init != 0 && r.Init != 1 || r.Clock < 0 || r.Clock >= len(m.Clocks) {
			return false
		}
		regs = append(regs, r.Name)
	}
	for _, p := range m.Outs {
		if !isSource(p.Src, last) {
			return false
		}
		outs = append(outs, p.Name)
	}
	for _, p := range m.Checks {
		if !isSource(p.Src, last) {
			return false
		}
		checks = append(checks, p.Name)
	}
	return namesTold(slices.Concat(m.Ins, m.Clocks)) && namesTold(regs) && namesTold(outs) && namesTold(checks)
}

// sourceValue is what a source is, worked out anew from what it hangs on.
type sourceValue struct {
	m    impl.Mapped
	held []string
	seen map[int]string
}

func (v *sourceValue) of(source int) string {
	if source < len(v.held) {
		return v.held[source]
	}
	if _, ok := v.seen[source]; !ok {
		l := v.m.Luts[source-len(v.held)]
		// each In leaves that half of the rows in which it is what it is
		rows := []int{}
		for row := range 1 << len(l.In) {
			rows = append(rows, row)
		}
		for place, in := range l.In {
			one := v.of(in) == "1"
			rows = slices.DeleteFunc(rows, func(row int) bool { return row>>place%2 == 1 != one })
		}
		v.seen[source] = fmt.Sprint(l.Table >> rows[0] % 2)
	}
	return v.seen[source]
}

// mapRunTold says what MapRun must answer.
func mapRunTold(m impl.Mapped, steps []impl.Step) ([]impl.Row, int) {
	if len(steps) > 4096 {
		return nil, impl.ErrLong
	}
	if !mapTold(m) {
		return nil, impl.ErrBad
	}
	for _, s := range steps {
		wrong := func(bit string) bool { return bit != "0" && bit != "1" }
		if len(s.Ins) != len(m.Ins) || len(s.Ticks) != len(m.Clocks) || slices.ContainsFunc(s.Ins, wrong) {
			return nil, impl.ErrBad
		}
	}
	var regs []string
	for _, r := range m.Regs {
		regs = append(regs, fmt.Sprint(r.Init))
	}
	var rows []impl.Row
	for _, s := range steps {
		ahead := sourceValue{m, slices.Concat(s.Ins, regs), map[int]string{}}
		regs = slices.Clone(regs)
		for i, r := range m.Regs {
			if s.Ticks[r.Clock] {
				regs[i] = ahead.of(r.Src)
			}
		}
		behind := sourceValue{m, slices.Concat(s.Ins, regs), map[int]string{}}
		row := impl.Row{Regs: regs}
		for _, p := range m.Outs {
			row.Outs = append(row.Outs, behind.of(p.Src))
		}
		for _, p := range m.Checks {
			row.Checks = append(row.Checks, behind.of(p.Src))
		}
		rows = append(rows, row)
	}
	return rows, impl.OK
}

// mapDepthTold says what MapDepth must answer: it takes away, again and again, the tables that read none of those that are left.
func mapDepthTold(m impl.Mapped) int {
	if !mapTold(m) {
		return -1
	}
	first := len(m.Ins) + len(m.Regs)
	var left []int
	for i := range m.Luts {
		left = append(left, first+i)
	}
	depth := 0
	for ; len(left) > 0; depth++ {
		now := slices.Clone(left)
		isLeft := func(source int) bool {
			_, found := slices.BinarySearch(now, source)
			return found
		}
		left = slices.DeleteFunc(left, func(source int) bool { return !slices.ContainsFunc(m.Luts[source-first].In, isLeft) })
	}
	return depth
}

// mapper maps a graph by going from each literal down.
type mapper struct {
	waysTold
	cuts   [][]impl.Cut
	times  map[int]int
	bests  map[int]impl.Cut
	needed map[int]bool
}

func (m *mapper) time(variable int) int {
	if variable < m.first {
		return 0
	}
	m.best(variable)
	return m.times[variable]
}

// best is the best cut of an and: the first time, and of it the first count, that a cut has.
func (m *mapper) best(variable int) impl.Cut {
	if cut, ok := m.bests[variable]; ok {
		return cut
	}
	var keys [][]int
	cuts := m.cuts[variable-m.first]
	for place, cut := range cuts[:len(cuts)-1] {
		time := 0
		for _, leaf := range cut.Leaves {
			time = max(time, m.time(leaf))
		}
		keys = append(keys, []int{time + 1, len(cut.Leaves), place})
	}
	least := slices.MinFunc(keys, slices.Compare[[]int])
	m.times[variable] = least[0]
	m.bests[variable] = cuts[least[2]]
	return m.bests[variable]
}

// need makes a variable needed, if it is an and, and what its table reads.
func (m *mapper) need(variable int) {
	if variable >= m.first && !m.needed[variable] {
		m.needed[variable] = true
		m.needLeaves(variable)
	}
}

func (m *mapper) needLeaves(variable int) {
	if variable >= m.first {
		for _, leaf := range m.best(variable).Leaves {
			m.need(leaf)
		}
	}
}

// lutOf is the table of a variable's leaves, each bit turned or not.
func (m *mapper) lutOf(lit int, sources map[int]int) impl.Lut {
	variable, turned := lit/2, lit%2 == 1
	switch {
	case variable == 0:
		return impl.Lut{Table: lit}
	case variable < m.first:
		return impl.Lut{In: []int{sources[variable]}, Table: 1}
	}
	l := impl.Lut{}
	best := m.best(variable)
	for _, leaf := range best.Leaves {
		l.In = append(l.In, sources[leaf])
	}
	slices.Sort(l.In)
	l.Table = tableBy(len(l.In), func(row int) bool { return best.Table>>row%2 == 1 != turned })
	return l
}

// mapLutsTold says what MapLuts must answer.
func mapLutsTold(a impl.Aig, most int) (impl.Mapped, int) {
	cuts, code := cutsTold(a, most)
	if code != impl.OK {
		return impl.Mapped{}, code
	}
	m := &mapper{waysOfGraph(a), cuts, map[int]int{}, map[int]impl.Cut{}, map[int]bool{}}
	for variable := range m.variables() {
		// from the lowest on, that no way is too long
		m.time(variable)
	}
	for _, lit := range endLits(a) {
		if lit%2 == 0 {
			m.need(lit / 2)
		} else {
			m.needLeaves(lit / 2)
		}
	}
	out := impl.Mapped{Ins: a.Ins, Clocks: a.Clocks}
	sources, behind := map[int]int{}, map[int]int{}
	for variable := 1; variable < m.variables(); variable++ {
		switch {
		case variable < m.first:
			sources[variable] = variable - 1
		case m.needed[variable]:
			sources[variable] = m.first - 1 + len(out.Luts)
			out.Luts = append(out.Luts, m.lutOf(2*variable, sources))
		}
	}
	src := func(lit int) int {
		if lit > 1 && lit%2 == 0 {
			return sources[lit/2]
		}
		if _, ok := behind[lit]; !ok {
			behind[lit] = m.first - 1 + len(out.Luts)
			out.Luts = append(out.Luts, m.lutOf(lit, sources))
		}
		return behind[lit]
	}
	for _, p := range a.Outs {
		out.Outs = append(out.Outs, impl.Port{Name: p.Name, Src: src(p.Lit)})
	}
	for _, p := range a.Checks {
		out.Checks = append(out.Checks, impl.Port{Name: p.Name, Src: src(p.Lit)})
	}
	for _, l := range a.Latches {
		out.Regs = append(out.Regs, impl.MapReg{Name: l.Name, Src: src(l.Next), Init: l.Init, Clock: l.Clock})
	}
	if len(out.Luts) > 1024 {
		return impl.Mapped{}, impl.ErrMany
	}
	return out, impl.OK
}
