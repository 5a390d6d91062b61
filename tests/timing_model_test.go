package tests

import (
	"slices"

	"loop.example/g00031/impl"
)

// wayTold is one way of a path: where it begins and ends, and what it takes.
type wayTold struct{ from, to, takes int }

// timingModel goes all ways forward, one by one.
type timingModel struct {
	timingCall
	ends   []impl.Port
	ways   []wayTold
	counts map[string]int
}

// goingTold says over how many wires a source comes to where a reader stands.
func (m *timingModel) goingTold(source int, at goalTold) int {
	if sourceTold(m.p, m.c, m.tiles, source) == at {
		return 0
	}
	var far []int
	found := 0
	for _, h := range m.nets[source] {
		wires := 1
		if h.From >= 0 {
			wires += far[h.From]
		}
		far = append(far, wires)
		to := []goalTold{{h.X + 1, h.Y}, {h.X, h.Y + 1}, {h.X - 1, h.Y}, {h.X, h.Y - 1}}[h.Dir]
		if to != at {
			continue
		}
		if found == 0 {
			found = wires
		} else {
			m.counts[[]string{"a later wire that ends there", "a later wire that ends there sooner"}[numberIf(wires < found)]]++
		}
	}
	if found == 0 {
		panic("no wire ends there")
	}
	return found
}

// goOn goes on from a source, which some of a way comes to.
func (m *timingModel) goOn(from, source, takes int) {
	for number, b := range m.p.Blocks {
		if !slices.Contains(b.In, source) {
			continue
		}
		tile := m.tiles[number]
		there := takes + m.d.Wire*m.goingTold(source, goalTold{tile % m.c.Wide, tile / m.c.Wide}) + m.d.Lut
		if b.Reg {
			m.ways = append(m.ways, wayTold{from, number, there + m.d.Setup})
		} else {
			m.goOn(from, len(m.p.Ins)+number, there)
		}
	}
	for j, end := range m.ends {
		if end.Src == source {
			there := takes + m.d.Wire*m.goingTold(source, goalTold{m.c.Wide, j % m.c.High}) + m.d.Pad
			m.ways = append(m.ways, wayTold{from, len(m.p.Blocks) + j, there})
		}
	}
}

// allWaysTold are all ways from beginnings to ends, also from inputs to outs and checks.
func allWaysTold(a timingCall, counts map[string]int) []wayTold {
	m := &timingModel{timingCall: a, ends: slices.Concat(a.p.Outs, a.p.Checks), counts: counts}
	for input := range a.p.Ins {
		m.goOn(input, input, a.d.Pad)
	}
	for number, b := range a.p.Blocks {
		if b.Reg {
			m.goOn(len(a.p.Ins)+number, len(a.p.Ins)+number, a.d.Out)
		}
	}
	return m.ways
}

func timingCodeTold(a timingCall) int {
	if len(a.excepts) > 4096 {
		return impl.ErrLong
	}
	if !routeTold(a.p, a.c, a.tiles, a.nets) {
		return impl.ErrBad
	}
	for _, delay := range []int{a.d.Lut, a.d.Wire, a.d.Pad, a.d.Out, a.d.Setup} {
		if delay < 0 || delay > 1000 {
			return impl.ErrRange
		}
	}
	if len(a.periods) != len(a.p.Clocks) {
		return impl.ErrRange
	}
	for _, period := range a.periods {
		if period < 1 || period > 1000000 {
			return impl.ErrRange
		}
	}
	for _, e := range a.excepts {
		from, to := e.From == -1 || slices.Contains(beginningsOf(a.p), e.From), e.To == -1 || slices.Contains(endsOf(a.p), e.To)
		if !from || !to || e.Cycles < 0 || e.Cycles > 100 {
			return impl.ErrBad
		}
	}
	return impl.OK
}

// timingTold says what Timing must answer, and counts what there was to it.
func timingTold(a timingCall, counts map[string]int) (impl.Report, int) {
	if code := timingCodeTold(a); code != impl.OK {
		return impl.Report{}, code
	}
	var r impl.Report
	first := true
	ways := allWaysTold(a, counts)
	for from := range len(a.p.Ins) + len(a.p.Blocks) {
		for to := range len(a.p.Blocks) + len(a.p.Outs) + len(a.p.Checks) {
			path := impl.Path{From: from, To: to, Least: 1 << 60, Most: -1}
			for _, w := range ways {
				if w.from == from && w.to == to {
					path.Most, path.Least = max(path.Most, w.takes), min(path.Least, w.takes)
				}
			}
			if path.Most < 0 {
				continue
			}
			cycles, clock, isCross := pathTold(a, path, counts)
			if cycles == 0 {
				continue
			}
			if isCross {
				r.Cross = append(r.Cross, path)
				continue
			}
			path.Slack = cycles*a.periods[clock] - path.Most
			r.Paths = append(r.Paths, path)
			if first || path.Slack < r.Worst {
				r.Worst, first = path.Slack, false
			}
		}
	}
	counts["no paths"] += numberIf(first)
	counts["Worst below 0"] += numberIf(r.Worst < 0)
	counts["Worst above 0"] += numberIf(r.Worst > 0)
	return r, impl.OK
}

// pathTold says how many cycles of which clock a path has, 0 if it is not told, and whether it is one between two clocks.
func pathTold(a timingCall, path impl.Path, counts map[string]int) (cycles, clock int, isCross bool) {
	begins, ends := -1, -1
	if path.From >= len(a.p.Ins) {
		begins = a.p.Blocks[path.From-len(a.p.Ins)].Clock
	}
	if path.To < len(a.p.Blocks) {
		ends = a.p.Blocks[path.To].Clock
	}
	kind := ""
	switch {
	case begins < 0 && ends < 0:
		counts["from an input to an out"]++
		return 0, 0, false
	case ends < 0:
		kind, clock = "from a register to an out", begins
	case begins < 0:
		kind, clock = "from an input to a register", ends
	case begins == ends:
		kind, clock = "of one clock", ends
	default:
		kind, clock = "between two clocks", ends
	}
	fit := 0
	cycles, isCross = 1, kind == "between two clocks"
	for _, e := range a.excepts {
		if (e.From == -1 || e.From == path.From) && (e.To == -1 || e.To == path.To) {
			counts["another one of several excepts"] += numberIf(fit > 0 && cycles != e.Cycles)
			fit, cycles, isCross = fit+1, e.Cycles, false
		}
	}
	if fit > 0 {
		counts[kind+", "+[]string{"not told", "excepted"}[min(cycles, 1)]]++
	} else {
		counts[kind]++
	}
	counts["two ways, Most and Least apart"] += numberIf(path.Most > path.Least)
	return cycles, clock, isCross
}
