package tests

import (
	"fmt"
	"strings"
	"testing"

	"loop.example/g00031/impl"
)

// oneClock is a netlist read as netRead does, with one clock and inputs of these widths.
func oneClock(widths []int, text string) impl.Net {
	n := netRead("")
	n.Clocks, n.Ins = n.Clocks[:1], nil
	for i, width := range widths {
		n.Ins = append(n.Ins, impl.NetPort{Name: fmt.Sprint("a", i), Width: width})
	}
	parts := append(strings.Split(text, "|"), "", "", "")
	n.Regs = netRead("|" + parts[1]).Regs
	for word := range strings.FieldsSeq(parts[0]) {
		n.Cells = append(n.Cells, cellRead(n, word))
	}
	n.Outs, n.Checks = outsRead("y", parts[2]), outsRead("k", parts[3])
	return n
}

func TestMachine(t *testing.T) {
	for what, c := range map[string]struct {
		widths []int
		text   string
		want   string
	}{
		"nothing but a constant":            {nil, "'101 | | 0", "0 3 | - 0 101"},
		"nothing but a check":               {nil, "'1 | | | 0", "0 1 | - 0 1"},
		"no registers":                      {[]int{1}, "in0 not(0) | | 1", "1 1 | - 0,0 1,0"},
		"inputs one behind the other":       {[]int{1, 2}, "in0 in1 | | 1 0", "3 3 | - 0,0,0,0,0,0,0,0 000,010,100,110,001,011,101,111"},
		"the first input is the highest":    {[]int{2, 1}, "in0 in1 | | 0", "3 2 | - 0,0,0,0,0,0,0,0 00,00,01,01,10,10,11,11"},
		"an input that nothing reads":       {[]int{1}, "'1 | | 0", "1 1 | - 0,0 1,1"},
		"outs ahead of checks":              {[]int{1}, "in0 '01 not(0) | | 1 0 | 2 0", "1 5 | - 0,0 01010,01101"},
		"a register that turns":             {nil, "reg0 not(0) | r=0<1@0 | 0", "0 1 | 0 1 0 | 1 0 1"},
		"it begins as Init":                 {nil, "reg0 not(0) | r=1<1@0 | 0", "0 1 | 1 1 1 | 0 0 0"},
		"a register that stays":             {[]int{1}, "reg0 in0 | r=10<0@0 | 0 1", "1 3 | 10 0,0 100,101"},
		"a register that nothing reads":     {[]int{1}, "in0 '0 | r=1<0@0 | 1", "1 1 | 1 1,0 0,0 | 0 1,0 0,0"},
		"registers one behind the other":    {nil, "reg0 reg1 not(0) | p=0<2@0 q=11<1@0 | 0", "0 1 | 011 1 0 | 111 0 1"},
		"registers take their Nexts alike":  {nil, "reg0 reg1 | p=01<1@0 q=10<0@0 | 0", "0 2 | 0110 1 01 | 1001 0 10"},
		"the row behind the tick":           {[]int{1}, "in0 reg0 xor(0,1) | r=0<0@0 | 2", "1 1 | 0 0,1 0,1 | 1 0,1 1,0"},
		"numbers as they are first come to": {[]int{1}, "in0 reg0 '11 '01 sub(2,1) add(1,3) choose(0,5,4) | r=01<6@0 | 1", "1 2 | 01 1,1 01,01 | 10 0,2 10,10 | 11 3,3 11,11 | 00 2,0 00,00"},
		"from each with inputs rising":      {[]int{2}, "in0 reg0 xor(0,1) not(2) | r=11<3@0 | 1", "2 2 | 11 1,2,3,0 11,11,11,11 | 00 0,3,2,1 00,00,00,00 | 01 3,0,1,2 01,01,01,01 | 10 2,1,0,3 10,10,10,10"},
		"cells that nothing needs":          {[]int{1}, "in0 reg0 not(1) mul(1,1) not(0) neg(4) | r=0<2@0 | 0", "1 1 | 0 1,1 0,1 | 1 0,0 0,1"},
		"an out twice":                      {nil, "reg0 not(0) | r=0<1@0 | 0 1 0 | 0", "0 4 | 0 1 0100 | 1 0 1011"},
		"states that are alike stay":        {nil, "reg0 '01 add(0,1) part1@0(0) | r=00<2@0 | 3", "0 1 | 00 1 0 | 01 2 1 | 10 3 0 | 11 0 1"},
	} {
		f, code := holdMachine(t, oneClock(c.widths, c.text))
		if code != impl.OK || fsmWritten(f) != c.want {
			t.Errorf("%s: code %d, %s, want %s", what, code, fsmWritten(f), c.want)
		}
	}
	plain := oneClock([]int{1}, "in0 not(0) | | 1")
	plain.Clocks = nil
	if f, code := holdMachine(t, plain); code != impl.OK || fsmWritten(f) != "1 1 | - 0,0 1,0" {
		t.Errorf("no clock: code %d, %s", code, fsmWritten(f))
	}
}

// netOfBits has one clock and so many bits of inputs, of outs and checks, and of registers, in several pieces each.
func netOfBits(ins, outs, checks, regs int) impl.Net {
	n := impl.Net{Clocks: []string{"clk"}}
	for left := ins; left > 0; left -= 2 {
		n.Ins = append(n.Ins, impl.NetPort{Name: fmt.Sprint("a", left), Width: min(left, 2)})
	}
	cell := func(width int) int {
		n.Cells = append(n.Cells, bitsCell(zeros(width)))
		return len(n.Cells) - 1
	}
	for left := outs; left > 0; left -= 40 {
		n.Outs = append(n.Outs, impl.NetOut{Name: fmt.Sprint("y", left), Cell: cell(min(left, 40))})
	}
	for left := checks; left > 0; left-- {
		n.Checks = append(n.Checks, impl.NetOut{Name: fmt.Sprint("k", left), Cell: cell(1)})
	}
	for left := regs; left > 0; left -= 30 {
		n.Regs = append(n.Regs, impl.NetReg{Name: fmt.Sprint("r", left), Width: min(left, 30), Init: zeros(min(left, 30)), Next: cell(min(left, 30))})
	}
	return n
}

// Each code, at its bound and one beyond it, and in the order of the chapter.
func TestMachineFaults(t *testing.T) {
	with := func(n impl.Net, change func(n *impl.Net)) impl.Net {
		change(&n)
		return n
	}
	clock := func(n *impl.Net) { n.Clocks = append(n.Clocks, "tck") }
	eight := func(n *impl.Net) { n.Clocks = []string{"a", "b", "c", "d", "e", "f", "g", "h"} }
	wrong := func(n *impl.Net) { n.Cells = append(n.Cells, impl.Cell{}) }
	for what, c := range map[string]struct {
		n    impl.Net
		want int
	}{
		"nothing":                                {impl.Net{}, impl.ErrWidth},
		"one out":                                {netOfBits(0, 1, 0, 0), impl.OK},
		"one check":                              {netOfBits(0, 0, 1, 0), impl.OK},
		"a register and no out":                  {netOfBits(1, 0, 0, 1), impl.ErrWidth},
		"as many input bits as can be":           {netOfBits(5, 1, 0, 0), impl.OK},
		"an input bit more":                      {netOfBits(6, 1, 0, 0), impl.ErrMany},
		"many inputs":                            {netOfBits(512, 1, 0, 0), impl.ErrMany},
		"as many out bits as can be":             {netOfBits(0, 64, 0, 0), impl.OK},
		"an out bit more":                        {netOfBits(0, 65, 0, 0), impl.ErrWidth},
		"as many with checks as can be":          {netOfBits(0, 60, 4, 0), impl.OK},
		"a check more":                           {netOfBits(0, 60, 5, 0), impl.ErrWidth},
		"as many checks as can be":               {netOfBits(0, 0, 64, 0), impl.OK},
		"of checks one more":                     {netOfBits(0, 0, 65, 0), impl.ErrWidth},
		"as many register bits as can be":        {netOfBits(0, 1, 0, 64), impl.OK},
		"a register bit more":                    {netOfBits(0, 1, 0, 65), impl.ErrWidth},
		"all as much as can be":                  {netOfBits(5, 60, 4, 64), impl.OK},
		"very much":                              {netOfBits(512, 9600, 256, 6000), impl.ErrMany},
		"a clock more":                           {with(netOfBits(5, 64, 0, 64), clock), impl.ErrKind},
		"many clocks":                            {with(netOfBits(0, 1, 0, 0), eight), impl.ErrKind},
		"many clocks and no registers, no out":   {with(netOfBits(0, 0, 0, 0), eight), impl.ErrKind},
		"a clock ahead of inputs":                {with(netOfBits(6, 1, 0, 0), clock), impl.ErrKind},
		"a clock ahead of outs":                  {with(netOfBits(0, 65, 0, 0), clock), impl.ErrKind},
		"inputs ahead of outs":                   {netOfBits(6, 65, 0, 0), impl.ErrMany},
		"inputs ahead of no outs":                {netOfBits(6, 0, 0, 0), impl.ErrMany},
		"inputs ahead of registers":              {netOfBits(6, 1, 0, 65), impl.ErrMany},
		"no netlist":                             {with(netOfBits(1, 1, 0, 1), wrong), impl.ErrBad},
		"no netlist ahead of a clock":            {with(with(netOfBits(6, 65, 0, 65), wrong), clock), impl.ErrBad},
		"as many states as can be":               {counter(64, 1), impl.OK},
		"a state more":                           {counter(65, 1), impl.ErrMany},
		"a state more with all inputs":           {counter(65, 5), impl.ErrMany},
		"as many states with all inputs":         {counter(64, 5), impl.OK},
		"very many states":                       {counter(1<<40, 0), impl.ErrMany},
		"many states that cannot be come to":     {oneClock([]int{1}, "in0 reg0 size64(0) mul(1,2) | r="+zeros(64)+"<3@0 | 1"), impl.OK},
		"registers too wide ahead of the states": {with(counter(65, 1), widened), impl.ErrWidth},
	} {
		f, code := holdMachine(t, c.n)
		if code != c.want || code != impl.OK && fsmShown(f) != fsmShown(impl.Fsm{}) {
			t.Errorf("%s: code %d, want %d", what, code, c.want)
		}
	}
	for what, n := range wrongNets() {
		if f, code := impl.Machine(n); code != impl.ErrBad || fsmShown(f) != fsmShown(impl.Fsm{}) {
			t.Errorf("%s: code %d", what, code)
		}
	}
}

// counter counts from 0 up below a number and round, where the input, of so many bits, is not 0 (always if there is none).
func counter(below, ins int) impl.Net {
	n := impl.Net{
		Clocks: []string{"clk"},
		Cells: []impl.Cell{
			regCell(0, 60), bitsCell(impl.BitsOf(below-1, 60)), bitsCell(impl.BitsOf(1, 60)), bitsCell(zeros(60)),
			cellOf(impl.OpAdd, 60, 0, 2), cellOf(impl.OpEq, 1, 0, 1), cellOf(impl.OpChoose, 60, 5, 3, 4),
		},
		Regs: []impl.NetReg{{Name: "r", Width: 60, Init: zeros(60), Next: 6}},
		Outs: []impl.NetOut{{Name: "y", Cell: 0}},
	}
	if ins > 0 {
		n.Ins = []impl.NetPort{{Name: "e", Width: ins}}
		n.Cells = append(n.Cells, inCell(0, ins), cellOf(impl.OpChoose, 60, 7, 6, 0))
		n.Regs[0].Next = 8
	}
	return n
}

func widened(n *impl.Net) {
	n.Regs = append(n.Regs, impl.NetReg{Name: "w", Width: 5, Init: zeros(5), Next: len(n.Cells)})
	n.Cells = append(n.Cells, bitsCell(zeros(5)))
}

// The last state that can be is found with the last input alone.
func TestMachineOfManyStates(t *testing.T) {
	f, _ := holdMachine(t, counter(64, 5))
	if f.Ins != 5 || f.OutBits != 60 || len(f.States) != 64 || f.States[63] != impl.BitsOf(63, 60) || f.Next[63][31] != 0 || f.Next[63][0] != 63 || f.Outs[9][7] != impl.BitsOf(9, 60) {
		t.Errorf("%s", fsmWritten(f))
	}
	// a register of 64 bits whose bits go round one by one has as many states
	n := oneClock(nil, "reg0 part63@0(0) part1@63(0) join(1,2) | r="+zeros(63)+"1<3@0 | 0")
	if f, code := holdMachine(t, n); code != impl.OK || len(f.States) != 64 || f.States[63] != "1"+zeros(63) || f.Outs[1][0] != zeros(62)+"10" {
		t.Errorf("code %d, %s", code, fsmWritten(f))
	}
	// two registers that go round by themselves have more
	n = oneClock(nil, "reg0 part62@0(0) part1@62(0) join(1,2) reg1 not(4) | r="+zeros(62)+"1<3@0 s=0<5@0 | 0")
	if _, code := holdMachine(t, n); code != impl.ErrMany {
		t.Errorf("code %d", code)
	}
}

// A netlist of as many cells as can be, each state and input of it.
func TestMachineOfManyCells(t *testing.T) {
	n := counter(64, 5)
	for len(n.Cells) < impl.MaxCells {
		at := len(n.Cells)
		n.Cells = append(n.Cells, cellOf([]int{impl.OpAdd, impl.OpSub, impl.OpXor}[at%3], 60, 0, at-1))
	}
	n.Outs[0].Cell = len(n.Cells) - 1
	f, code := impl.Machine(n)
	if code != impl.OK || len(f.States) != 64 {
		t.Fatalf("code %d, %d states", code, len(f.States))
	}
	holdTells(t, n, f, machinistOf(1).inputs(f, 50))
	n.Cells = append(n.Cells, bitsCell("0"))
	if f, code := impl.Machine(n); code != impl.ErrBad || fsmShown(f) != fsmShown(impl.Fsm{}) {
		t.Errorf("code %d", code)
	}
}
