package tests

import (
	"fmt"
	"slices"
	"strings"

	"loop.example/g00031/impl"
)

// fsmRead reads a machine: the bits of its input and of what it tells, then of each state, behind `|`, its text (- for the empty one), its row of Next and its row of Outs, as in "1 2 | 0 0,1 00,01 | 1 1,0 10,11".
func fsmRead(text string) impl.Fsm {
	parts := strings.Split(text, "|")
	head := strings.Fields(parts[0])
	f := impl.Fsm{Ins: numberRead(head[0]), OutBits: numberRead(head[1])}
	for _, part := range parts[1:] {
		words := strings.Fields(part)
		var next []int
		for word := range strings.SplitSeq(words[1], ",") {
			next = append(next, numberRead(word))
		}
		f.States = append(f.States, strings.TrimPrefix(words[0], "-"))
		f.Next = append(f.Next, next)
		f.Outs = append(f.Outs, strings.Split(words[2], ","))
	}
	return f
}

// fsmWritten writes a machine as fsmRead reads it.
func fsmWritten(f impl.Fsm) string {
	text := fmt.Sprint(f.Ins, " ", f.OutBits)
	for s, name := range f.States {
		if name == "" {
			name = "-"
		}
		next := strings.Trim(strings.ReplaceAll(fmt.Sprint(f.Next[s]), " ", ","), "[]")
		text += fmt.Sprint(" | ", name, " ", next, " ", strings.Join(f.Outs[s], ","))
	}
	return text
}

func fsmCopied(f impl.Fsm) impl.Fsm {
	f.States, f.Next, f.Outs = slices.Clone(f.States), slices.Clone(f.Next), slices.Clone(f.Outs)
	for s := range f.Next {
		f.Next[s] = slices.Clone(f.Next[s])
	}
	for s := range f.Outs {
		f.Outs[s] = slices.Clone(f.Outs[s])
	}
	return f
}

// machinist makes machines of which many states are alike, tell the same now and not later, or cannot be come to.
type machinist struct{ choices }

func machinistOf(seed uint64) *machinist {
	return &machinist{choices{seed: seed*0x9e3779b97f4a7c15 | 1}}
}

func (m *machinist) ins() int { return []int{0, 1, 1, 2, 2, 3, 5}[m.below(7)] }

// few are some things to be told, so that many states tell the same.
func (m *machinist) few(width int) []string {
	first := int(stirred(uint64(m.below(1<<30) + 1)))
	var list []string
	for i := range 1 + m.below(4) {
		list = append(list, impl.BitsOf(first+i, width))
	}
	return list
}

// texts are so many, of which no two are the same, of unlike lengths.
func (m *machinist) texts(count int) []string {
	var all []string
	for len(all) < count {
		width := m.below(9)
		if m.below(10) == 0 {
			width = 64
		}
		text := impl.BitsOf(m.below(1<<30), width)
		if !slices.Contains(all, text) {
			all = append(all, text)
		}
	}
	return all
}

// fsm has several states for each of a smaller machine, and sometimes one that comes to another state than these.
func (m *machinist) fsm(kinds, states int) impl.Fsm {
	f := impl.Fsm{Ins: m.ins(), OutBits: []int{1, 2, 3, 64}[m.below(4)]}
	outs := m.few(f.OutBits)
	var next [][]int
	var rows [][]string
	for range kinds {
		var to []int
		var row []string
		for range 1 << f.Ins {
			to, row = append(to, m.below(kinds)), append(row, outs[m.below(len(outs))])
		}
		if len(rows) > 0 && m.below(2) > 0 {
			// it tells the same now
			row = rows[m.below(len(rows))]
		}
		next, rows = append(next, to), append(rows, row)
	}
	f.States = m.texts(states)
	kind := make([]int, states)
	for s := range states {
		kind[s] = m.below(kinds)
	}
	for s := range states {
		var to []int
		for _, wanted := range next[kind[s]] {
			at := m.below(states)
			for k := range states {
				if kind[(at+k)%states] == wanted {
					at = (at + k) % states
					break
				}
			}
			to = append(to, at)
		}
		f.Next, f.Outs = append(f.Next, to), append(f.Outs, slices.Clone(rows[kind[s]]))
	}
	if m.below(3) == 0 {
		row := f.Next[m.below(states)]
		row[m.below(len(row))] = m.below(states)
	}
	return f
}

func (m *machinist) inputs(f impl.Fsm, count int) []int {
	var all []int
	for range count {
		all = append(all, m.below(1<<f.Ins))
	}
	return all
}

// bent changes one piece of a machine.
func (m *machinist) bent(f *impl.Fsm) {
	s := m.below(len(f.States))
	i := m.below(len(f.Next[s]))
	by := []int{1, -1, 2, -2, 31}[m.below(5)]
	switch m.below(10) {
	case 0:
		f.Ins += by
	case 1:
		f.OutBits += by
	case 2:
		f.States[s] = m.oneOf("", f.States[s]+"0", "x", "0 ", f.States[m.below(len(f.States))], zeros(64), zeros(65))
	case 3:
		f.States = f.States[:s]
	case 4:
		f.Next = f.Next[:s]
	case 5:
		f.Outs[s] = append(f.Outs[s], f.Outs[s][0])
	case 6:
		f.Outs[s][i] = m.oneOf("", f.Outs[s][i]+"0", f.Outs[s][i][1:], "x", "z"+f.Outs[s][i][1:], f.Outs[s][0])
	case 7:
		f.Next[s] = f.Next[s][:i]
	default:
		f.Next[s][i] += by
	}
}

// stated is a netlist with few bits of inputs and registers.
func (w *wirer) stated(cells int) impl.Net {
	for left := w.below(7); left > 0; {
		width := 1 + w.below(left)
		w.n.Ins = append(w.n.Ins, impl.NetPort{Name: fmt.Sprint("a", len(w.n.Ins)), Width: width})
		w.add(inCell(len(w.n.Ins)-1, width))
		left -= width
	}
	if w.below(10) > 0 {
		w.n.Clocks = []string{"clk"}
	}
	for left := w.below(10) * len(w.n.Clocks); left > 0; {
		width := 1 + w.below(left)
		w.n.Regs = append(w.n.Regs, impl.NetReg{Name: fmt.Sprint("r", len(w.n.Regs)), Width: width, Init: w.bits(width)})
		w.add(regCell(len(w.n.Regs)-1, width))
		left -= width
	}
	w.add(bitsCell(w.bits(1 + w.below(4))))
	for range cells {
		w.cell()
	}
	for i, r := range w.n.Regs {
		w.n.Regs[i].Next = w.of(r.Width)
	}
	for i := range w.below(4) {
		w.n.Outs = append(w.n.Outs, impl.NetOut{Name: fmt.Sprint("y", i), Cell: w.any()})
	}
	for i := range w.below(3) {
		w.n.Checks = append(w.n.Checks, impl.NetOut{Name: fmt.Sprint("k", i), Cell: w.of(1)})
	}
	return w.n
}
