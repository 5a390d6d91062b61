package tests

import (
	"fmt"
	"slices"
	"strconv"
	"strings"

	"loop.example/g00031/impl"
)

// fsmTold says what FsmOK must answer.
func fsmTold(f impl.Fsm) bool {
	if f.Ins < 0 || f.Ins > 5 || f.OutBits < 1 || f.OutBits > 64 {
		return false
	}
	if len(f.States) < 1 || len(f.States) > 64 || len(f.Next) != len(f.States) || len(f.Outs) != len(f.States) {
		return false
	}
	inputs := []int{1, 2, 4, 8, 16, 32}[f.Ins]
	for s, text := range f.States {
		if len(text) > 64 || strings.Trim(text, "01") != "" || slices.Contains(f.States[:s], text) {
			return false
		}
		if len(f.Next[s]) != inputs || len(f.Outs[s]) != inputs {
			return false
		}
		for i := range inputs {
			if next := f.Next[s][i]; next < 0 || next >= len(f.States) {
				return false
			}
			if out := f.Outs[s][i]; len(out) != f.OutBits || strings.Trim(out, "01") != "" {
				return false
			}
		}
	}
	return true
}

// fsmRunTold says what FsmRun must answer.
func fsmRunTold(f impl.Fsm, inputs []int) ([]string, int) {
	if len(inputs) > 4096 {
		return nil, impl.ErrLong
	}
	if !fsmTold(f) {
		return nil, impl.ErrBad
	}
	for _, i := range inputs {
		if i < 0 || i >= len(f.Next[0]) {
			return nil, impl.ErrRange
		}
	}
	var told []string
	at := 0
	for _, i := range inputs {
		at = f.Next[at][i]
		told = append(told, f.Outs[at][i])
	}
	return told, impl.OK
}

// cutTold are bits by their parts, the first ones first.
func cutTold(bits string, widths []int) []string {
	var parts []string
	for _, width := range widths {
		parts = append(parts, bits[:width])
		bits = bits[width:]
	}
	return parts
}

func sumTold(widths []int) int {
	sum := 0
	for _, width := range widths {
		sum += width
	}
	return sum
}

// machineTold says what Machine must answer, each cell being worked out anew for each state and input.
func machineTold(n impl.Net) (impl.Fsm, int) {
	if !netTold(n) {
		return impl.Fsm{}, impl.ErrBad
	}
	var ins, outs, regs, ends []int
	first := ""
	for _, in := range n.Ins {
		ins = append(ins, in.Width)
	}
	for _, out := range slices.Concat(n.Outs, n.Checks) {
		outs, ends = append(outs, n.Cells[out.Cell].Width), append(ends, out.Cell)
	}
	for _, reg := range n.Regs {
		regs, first = append(regs, reg.Width), first+reg.Init
	}
	switch {
	case len(n.Clocks) > 1:
		return impl.Fsm{}, impl.ErrKind
	case sumTold(ins) > 5:
		return impl.Fsm{}, impl.ErrMany
	case sumTold(outs) == 0 || sumTold(outs) > 64 || sumTold(regs) > 64:
		return impl.Fsm{}, impl.ErrWidth
	}
	f := impl.Fsm{Ins: sumTold(ins), OutBits: sumTold(outs), States: []string{first}}
	for s := 0; s < len(f.States); s++ {
		f.Next, f.Outs = append(f.Next, nil), append(f.Outs, nil)
		for i := range 1 << f.Ins {
			v := netValue{n, cutTold(impl.BitsOf(i, f.Ins), ins), cutTold(f.States[s], regs), map[int]string{}}
			next, told := "", ""
			for _, reg := range n.Regs {
				next += v.of(reg.Next)
			}
			for _, cell := range ends {
				told += v.of(cell)
			}
			if !slices.Contains(f.States, next) {
				f.States = append(f.States, next)
			}
			f.Next[s] = append(f.Next[s], slices.Index(f.States, next))
			f.Outs[s] = append(f.Outs[s], told)
		}
		if len(f.States) > 64 {
			return impl.Fsm{}, impl.ErrMany
		}
	}
	return f, impl.OK
}

// reachedTold are the states that can be come to.
func reachedTold(f impl.Fsm) []bool {
	reached := make([]bool, len(f.States))
	reached[0] = true
	for range f.States {
		for s, row := range f.Next {
			for _, next := range row {
				reached[next] = reached[next] || reached[s]
			}
		}
	}
	return reached
}

// unlikeTold tells of any two states whether something tells them apart: what they tell, or what states tell that they come to with the same inputs.
func unlikeTold(f impl.Fsm) [][]bool {
	unlike := make([][]bool, len(f.States))
	for a := range unlike {
		unlike[a] = make([]bool, len(f.States))
		for b := range unlike[a] {
			unlike[a][b] = strings.Join(f.Outs[a], " ") != strings.Join(f.Outs[b], " ")
		}
	}
	for changed := true; changed; {
		changed = false
		for a := range unlike {
			for b := range unlike[a] {
				for i := range f.Next[a] {
					if !unlike[a][b] && unlike[f.Next[a][i]][f.Next[b][i]] {
						unlike[a][b], changed = true, true
					}
				}
			}
		}
	}
	return unlike
}

// minimisedTold says what Minimise must answer.
func minimisedTold(f impl.Fsm) (impl.Fsm, int) {
	if !fsmTold(f) {
		return impl.Fsm{}, impl.ErrBad
	}
	reached, unlike := reachedTold(f), unlikeTold(f)
	least := func(state int) int {
		for other := range f.States {
			if reached[other] && !unlike[state][other] {
				return other
			}
		}
		return -1
	}
	made := impl.Fsm{Ins: f.Ins, OutBits: f.OutBits}
	order := []int{0}
	for s := 0; s < len(order); s++ {
		made.States = append(made.States, f.States[order[s]])
		made.Outs = append(made.Outs, f.Outs[order[s]])
		var row []int
		for _, next := range f.Next[order[s]] {
			if !slices.Contains(order, least(next)) {
				order = append(order, least(next))
			}
			row = append(row, slices.Index(order, least(next)))
		}
		made.Next = append(made.Next, row)
	}
	return made, impl.OK
}

// stateCodes are the codes of so many states.
func stateCodes(mode, states int) []string {
	width := 1
	for 1<<width < states {
		width++
	}
	var codes []string
	for s := range states {
		plain := strconv.FormatInt(int64(s), 2)
		plain = zeros(width-len(plain)) + plain
		switch mode {
		case impl.EncBinary:
			codes = append(codes, plain)
		case impl.EncGray:
			code := plain[:1]
			for i := 1; i < width; i++ {
				code += strconv.Itoa(numberIf(plain[i] != plain[i-1]))
			}
			codes = append(codes, code)
		default:
			codes = append(codes, zeros(states-1-s)+"1"+zeros(s))
		}
	}
	return codes
}

// tree is a cell with its operands below it.
type tree struct {
	cell impl.Cell
	kids []*tree
}

func bitsTree(bits string) *tree { return &tree{cell: bitsCell(bits)} }

// pickTree is the option whose code the tree of is, asked for one after the other.
func pickTree(of *tree, codes []string, options []*tree) *tree {
	if len(codes) == 1 {
		return options[0]
	}
	test := &tree{cellOf(impl.OpEq, 1), []*tree{of, bitsTree(codes[0])}}
	return &tree{cellOf(impl.OpChoose, options[0].cell.Width), []*tree{test, options[0], pickTree(of, codes[1:], options[1:])}}
}

// planter numbers the cells of trees as they are first met.
type planter struct {
	cells []impl.Cell
	met   map[string]int
}

func (p *planter) number(t *tree) int {
	c := t.cell
	for _, kid := range t.kids {
		c.In = append(c.In, p.number(kid))
	}
	key := fmt.Sprint(c)
	if _, ok := p.met[key]; !ok {
		p.met[key] = len(p.cells)
		p.cells = append(p.cells, c)
	}
	return p.met[key]
}

// encodedAll is the netlist of a machine, of however many cells.
func encodedAll(f impl.Fsm, mode int) impl.Net {
	codes := stateCodes(mode, len(f.States))
	width := len(codes[0])
	n := impl.Net{Clocks: []string{"clk"}}
	if f.Ins > 0 {
		n.Ins = []impl.NetPort{{Name: "i", Width: f.Ins}}
	}
	var numbers []string
	for i := range f.Next[0] {
		numbers = append(numbers, impl.BitsOf(i, f.Ins))
	}
	var nexts, outs []*tree
	for s := range f.States {
		var next, out []*tree
		for i := range f.Next[s] {
			next = append(next, bitsTree(codes[f.Next[s][i]]))
			out = append(out, bitsTree(f.Outs[s][i]))
		}
		in := &tree{cell: inCell(0, f.Ins)}
		nexts = append(nexts, pickTree(in, numbers, next))
		outs = append(outs, pickTree(in, numbers, out))
	}
	reg := &tree{cell: regCell(0, width)}
	p := &planter{met: map[string]int{}}
	n.Outs = []impl.NetOut{{Name: "y", Cell: p.number(pickTree(reg, codes, outs))}}
	n.Regs = []impl.NetReg{{Name: "s", Width: width, Init: codes[0], Next: p.number(pickTree(reg, codes, nexts))}}
	n.Cells = p.cells
	return n
}

// encodedTold says what Encode must answer.
func encodedTold(f impl.Fsm, mode int) (impl.Net, int) {
	if !fsmTold(f) {
		return impl.Net{}, impl.ErrBad
	}
	if mode != impl.EncBinary && mode != impl.EncGray && mode != impl.EncHot {
		return impl.Net{}, impl.ErrKind
	}
	n := encodedAll(f, mode)
	if len(n.Cells) > 4096 {
		return impl.Net{}, impl.ErrMany
	}
	return n, impl.OK
}
