package tests

import (
	"fmt"
	"slices"
	"strings"
	"testing"

	"loop.example/g00031/impl"
)

func TestNetConstants(t *testing.T) {
	for _, pair := range [][2]int{{impl.MaxCells, 4096}, {impl.MaxRegs, 256}, {impl.MaxClocks, 8}, {impl.OpIn, 33}, {impl.OpReg, 34}} {
		if pair[0] != pair[1] {
			t.Errorf("%d, want %d", pair[0], pair[1])
		}
	}
}

func wantsNet(t *testing.T, what string, n impl.Net, want bool) {
	t.Helper()
	if got := impl.NetOK(n); got != want {
		t.Errorf("%s: %v", what, got)
	}
	if netTold(n) != want {
		t.Errorf("%s: told otherwise", what)
	}
	code := impl.OK
	if !want {
		code = impl.ErrBad
	}
	if rows, got := impl.NetRun(n, nil); got != code || len(rows) != 0 {
		t.Errorf("%s: run with code %d, %d rows", what, got, len(rows))
	}
}

// inCell and regCell are cells without operands.
func inCell(n, width int) impl.Cell { return impl.Cell{Op: impl.OpIn, Width: width, N: n} }

func regCell(n, width int) impl.Cell { return impl.Cell{Op: impl.OpReg, Width: width, N: n} }

func cellOf(op, width int, in ...int) impl.Cell { return impl.Cell{Op: op, Width: width, In: in} }

func bitsCell(bits string) impl.Cell {
	return impl.Cell{Op: impl.OpBits, Width: len(bits), Bits: bits}
}

// theNet counts up by e, or takes a: two registers of two clocks.
func theNet() impl.Net {
	return impl.Net{
		Ins:    []impl.NetPort{{Name: "a", Width: 4}, {Name: "e", Width: 1}},
		Clocks: []string{"clk", "tck"},
		Cells: []impl.Cell{
			inCell(0, 4), inCell(1, 1), regCell(0, 4), regCell(1, 1), bitsCell("0001"),
			cellOf(impl.OpAdd, 4, 2, 4), cellOf(impl.OpChoose, 4, 1, 5, 0), cellOf(impl.OpEq, 1, 2, 0), cellOf(impl.OpNot, 1, 3),
		},
		Regs:   []impl.NetReg{{Name: "r", Width: 4, Clock: 0, Next: 6, Init: "0000"}, {Name: "s", Width: 1, Clock: 1, Next: 8, Init: "1"}},
		Outs:   []impl.NetOut{{Name: "y", Cell: 2}, {Name: "z", Cell: 6}},
		Checks: []impl.NetOut{{Name: "c", Cell: 7}},
	}
}

func TestNetOK(t *testing.T) {
	wantsNet(t, "nothing", impl.Net{}, true)
	wantsNet(t, "by hand", theNet(), true)
	wantsNet(t, "an empty cell", impl.Net{Cells: []impl.Cell{{}}}, false)
	wantsNet(t, "an empty input", impl.Net{Ins: []impl.NetPort{{}}}, false)
	wantsNet(t, "an empty register", impl.Net{Regs: []impl.NetReg{{}}}, false)
	wantsNet(t, "an empty out", impl.Net{Outs: []impl.NetOut{{}}}, false)
	wantsNet(t, "an empty check", impl.Net{Checks: []impl.NetOut{{}}}, false)
	wantsNet(t, "an empty clock", impl.Net{Clocks: []string{""}}, false)
	wantsNet(t, "a clock", impl.Net{Clocks: []string{"c"}}, true)
	const low, high = -1 << 63, 1<<63 - 1
	for what, c := range map[string]struct {
		change func(n *impl.Net)
		want   bool
	}{
		"no width of an input":         {func(n *impl.Net) { n.Ins[1].Width = 0 }, false},
		"another width of an input":    {func(n *impl.Net) { n.Ins[1].Width = 2 }, false},
		"a width below of an input":    {func(n *impl.Net) { n.Ins[0].Width = -4 }, false},
		"a great width of an input":    {func(n *impl.Net) { n.Ins[0].Width, n.Cells[0].Width = 65, 65 }, false},
		"an input that is not read":    {func(n *impl.Net) { n.Ins = append(n.Ins, impl.NetPort{Name: "q", Width: 64}) }, true},
		"a wide input that is unread":  {func(n *impl.Net) { n.Ins = append(n.Ins, impl.NetPort{Name: "q", Width: 65}) }, false},
		"no width of a register":       {func(n *impl.Net) { n.Regs[0].Width = 0 }, false},
		"another width of a register":  {func(n *impl.Net) { n.Regs[0].Width = 5 }, false},
		"another Next":                 {func(n *impl.Net) { n.Regs[0].Next = 2 }, true},
		"a Next that is not needed":    {func(n *impl.Net) { n.Regs[0].Next = 4 }, true},
		"a Next of other width":        {func(n *impl.Net) { n.Regs[0].Next = 7 }, false},
		"a Next below":                 {func(n *impl.Net) { n.Regs[0].Next = -1 }, false},
		"a Next far below":             {func(n *impl.Net) { n.Regs[0].Next = low }, false},
		"a Next above":                 {func(n *impl.Net) { n.Regs[0].Next = 9 }, false},
		"a Next far above":             {func(n *impl.Net) { n.Regs[0].Next = high }, false},
		"another clock":                {func(n *impl.Net) { n.Regs[0].Clock = 1 }, true},
		"a clock below":                {func(n *impl.Net) { n.Regs[0].Clock = -1 }, false},
		"a clock above":                {func(n *impl.Net) { n.Regs[0].Clock = 2 }, false},
		"a clock far above":            {func(n *impl.Net) { n.Regs[0].Clock = high }, false},
		"no clocks":                    {func(n *impl.Net) { n.Clocks = nil }, false},
		"another Init":                 {func(n *impl.Net) { n.Regs[0].Init = "1111" }, true},
		"an Init that is not known":    {func(n *impl.Net) { n.Regs[0].Init = "000x" }, false},
		"an Init that is not driven":   {func(n *impl.Net) { n.Regs[0].Init = "zzzz" }, false},
		"no Init":                      {func(n *impl.Net) { n.Regs[0].Init = "" }, false},
		"a short Init":                 {func(n *impl.Net) { n.Regs[0].Init = "000" }, false},
		"a long Init":                  {func(n *impl.Net) { n.Regs[0].Init = "00000" }, false},
		"an Init that is none":         {func(n *impl.Net) { n.Regs[0].Init = "0002" }, false},
		"another out":                  {func(n *impl.Net) { n.Outs[0].Cell = 8 }, true},
		"an out below":                 {func(n *impl.Net) { n.Outs[0].Cell = -1 }, false},
		"an out above":                 {func(n *impl.Net) { n.Outs[1].Cell = 9 }, false},
		"an out far below":             {func(n *impl.Net) { n.Outs[1].Cell = low }, false},
		"another check":                {func(n *impl.Net) { n.Checks[0].Cell = 1 }, true},
		"a check of four bits":         {func(n *impl.Net) { n.Checks[0].Cell = 0 }, false},
		"a check above":                {func(n *impl.Net) { n.Checks[0].Cell = 9 }, false},
		"a check below":                {func(n *impl.Net) { n.Checks[0].Cell = -1 }, false},
		"a register without OpReg":     {func(n *impl.Net) { n.Cells[3] = inCell(1, 1) }, true},
		"an input twice":               {func(n *impl.Net) { n.Ins[1].Name = "a" }, false},
		"a clock twice":                {func(n *impl.Net) { n.Clocks[1] = "clk" }, false},
		"an input and a clock":         {func(n *impl.Net) { n.Clocks[1] = "a" }, false},
		"a register twice":             {func(n *impl.Net) { n.Regs[1].Name = "r" }, false},
		"an out twice":                 {func(n *impl.Net) { n.Outs[1].Name = "y" }, false},
		"a check twice":                {func(n *impl.Net) { n.Checks = append(n.Checks, n.Checks[0]) }, false},
		"an input and a register":      {func(n *impl.Net) { n.Regs[1].Name = "a" }, true},
		"a register, an out, a check":  {func(n *impl.Net) { n.Outs[1].Name, n.Checks[0].Name = "r", "r" }, true},
		"names of any bytes":           {func(n *impl.Net) { n.Outs[1].Name, n.Ins[0].Name = "\x00 \xff", " " }, true},
		"a cell twice":                 {func(n *impl.Net) { n.Cells = append(n.Cells, n.Cells[5]) }, true},
		"an operand that is itself":    {func(n *impl.Net) { n.Cells[8].In[0] = 8 }, false},
		"an operand above":             {func(n *impl.Net) { n.Cells[6].In[0] = 7 }, false},
		"an operand below":             {func(n *impl.Net) { n.Cells[6].In[0] = -1 }, false},
		"an operand far below":         {func(n *impl.Net) { n.Cells[6].In[0] = low }, false},
		"an operand far above":         {func(n *impl.Net) { n.Cells[6].In[0] = high }, false},
		"the last operand that may be": {func(n *impl.Net) { n.Cells[8].In[0] = 7 }, true},
	} {
		n := theNet()
		c.change(&n)
		wantsNet(t, what, n, c.want)
	}
}

func TestNetNames(t *testing.T) {
	names := map[string]func(n *impl.Net) *string{
		"input":    func(n *impl.Net) *string { return &n.Ins[0].Name },
		"clock":    func(n *impl.Net) *string { return &n.Clocks[1] },
		"register": func(n *impl.Net) *string { return &n.Regs[0].Name },
		"out":      func(n *impl.Net) *string { return &n.Outs[1].Name },
		"check":    func(n *impl.Net) *string { return &n.Checks[0].Name },
	}
	for what, name := range names {
		for length, want := range map[int]bool{0: false, 1: true, 999: true, impl.MaxLine: true, impl.MaxLine + 1: false, 1 << 20: false} {
			n := theNet()
			*name(&n) = strings.Repeat("n", length)
			wantsNet(t, fmt.Sprint(what, " of ", length), n, want)
		}
	}
}

// cellNet has a cell behind ins of 4, 4, 3 and 1 bits and a register of 4.
func cellNet(c impl.Cell) impl.Net {
	return impl.Net{
		Ins:    []impl.NetPort{{Name: "a", Width: 4}, {Name: "b", Width: 4}, {Name: "w", Width: 3}, {Name: "e", Width: 1}},
		Clocks: []string{"clk"},
		Cells:  []impl.Cell{inCell(0, 4), inCell(1, 4), inCell(2, 3), inCell(3, 1), regCell(0, 4), bitsCell(zeros(64)), c},
		Regs:   []impl.NetReg{{Name: "r", Width: 4, Next: 4, Init: "1010"}},
		Outs:   []impl.NetOut{{Name: "y", Cell: 6}},
	}
}

func TestNetCells(t *testing.T) {
	const a, b, w, e, r, wide = 0, 1, 2, 3, 4, 5
	part := cellOf(impl.OpPart, 2, a)
	part.N = 2
	signed := cellOf(impl.OpSize, 64, a)
	signed.Signed = true
	good := map[string]impl.Cell{
		"bits": bitsCell("0110"), "one bit": bitsCell("1"), "64 bits": bitsCell(zeros(64)), "an in": inCell(2, 3), "a register": regCell(0, 4),
		"choose": cellOf(impl.OpChoose, 4, w, a, r), "choose, other": cellOf(impl.OpChoose, 3, a, w, w), "join": cellOf(impl.OpJoin, 8, w, a, e), "join of one": cellOf(impl.OpJoin, 3, w), "join of 64": cellOf(impl.OpJoin, 64, wide),
		"join of many": cellOf(impl.OpJoin, 64, slices.Repeat([]int{e}, 64)...), "wider": cellOf(impl.OpSize, 5, a), "wider, signed": signed, "less": cellOf(impl.OpSize, 3, a), "part": part, "all of it": cellOf(impl.OpPart, 4, a),
	}
	for op := impl.OpAnd; op <= impl.OpMul; op++ {
		good[fmt.Sprint(op)] = cellOf(op, 4, a, r)
	}
	for _, op := range []int{impl.OpEq, impl.OpNe, impl.OpLt, impl.OpLe} {
		good[fmt.Sprint(op)] = cellOf(op, 1, a, b)
	}
	for op := impl.OpShl; op <= impl.OpSar; op++ {
		good[fmt.Sprint(op)] = cellOf(op, 4, a, w)
	}
	good["17"], good["18"] = cellOf(impl.OpBoth, 1, a, w), cellOf(impl.OpEither, 1, w, a)
	good["19"], good["20"] = cellOf(impl.OpNot, 4, a), cellOf(impl.OpNeg, 3, w)
	for op := impl.OpAll; op <= impl.OpNone; op++ {
		good[fmt.Sprint(op)] = cellOf(op, 1, a)
	}
	for what, c := range good {
		with := func(change func(c *impl.Cell)) impl.Net {
			made := c
			made.In = slices.Clone(c.In)
			change(&made)
			return cellNet(made)
		}
		wantsNet(t, what, cellNet(c), true)
		wantsNet(t, what+" of no width", with(func(c *impl.Cell) { c.Width = 0 }), false)
		wantsNet(t, what+" of a width below", with(func(c *impl.Cell) { c.Width = -c.Width }), false)
		wantsNet(t, what+" of a great width", with(func(c *impl.Cell) { c.Width = 65 }), false)
		wantsNet(t, what+" with an operand more", with(func(c *impl.Cell) { c.In = append(c.In, a) }), false)
		wantsNet(t, what+" with N", with(func(c *impl.Cell) { c.N += 7 }), false)
		wantsNet(t, what+" with N far above", with(func(c *impl.Cell) { c.N = 1<<63 - 1 }), false)
		wantsNet(t, what+" with N below", with(func(c *impl.Cell) { c.N = -1 }), false)
		wantsNet(t, what+" with bits more", with(func(c *impl.Cell) { c.Bits += "0" }), false)
		wantsNet(t, what+" with an unknown bit", with(func(c *impl.Cell) { c.Bits = strings.Repeat("x", max(len(c.Bits), 1)) }), false)
		wantsNet(t, what+" with an undriven bit", with(func(c *impl.Cell) { c.Bits = "z" + c.Bits[min(1, len(c.Bits)):] }), false)
		if len(c.In) > 0 {
			wantsNet(t, what+" with an operand less", with(func(c *impl.Cell) { c.In = c.In[1:] }), false)
			wantsNet(t, what+" of itself", with(func(c *impl.Cell) { c.In[0] = 6 }), false)
		}
		signs := c.Op == impl.OpLt || c.Op == impl.OpLe || c.Op == impl.OpSize && c.Width > 4
		wantsNet(t, what+" signed", with(func(c *impl.Cell) { c.Signed = true }), signs)
		wantsNet(t, what+" not signed", with(func(c *impl.Cell) { c.Signed = false }), true)
	}
	for what, c := range map[string]impl.Cell{
		"a division": cellOf(impl.OpDiv, 4, a, b), "a rest": cellOf(impl.OpRem, 4, a, b), "the same": cellOf(impl.OpSame, 1, a, b),
		"a signal": {Op: impl.OpSig, Width: 4}, "a word": {Op: impl.OpMem, Width: 4, In: []int{a}}, "a bit by an index": {Op: impl.OpPick, Width: 1, In: []int{a}},
		"unlike operands": cellOf(impl.OpAdd, 4, a, w), "unlike compared": cellOf(impl.OpEq, 1, a, w), "a comparison of two bits": cellOf(impl.OpLt, 2, a, b),
		"a shift of the right one's width": cellOf(impl.OpShl, 3, a, w), "choose, unlike": cellOf(impl.OpChoose, 4, a, a, w), "choose, unlike the other way": cellOf(impl.OpChoose, 4, a, w, a),
		"join too short": cellOf(impl.OpJoin, 6, w, a), "join of none": cellOf(impl.OpJoin, 1), "join too long": cellOf(impl.OpJoin, 65, wide, e), "join of very many": cellOf(impl.OpJoin, 64, make([]int, 1<<20)...),
		"size of the same width": cellOf(impl.OpSize, 4, a), "a part above": {Op: impl.OpPart, Width: 2, N: 3, In: []int{a}}, "a wide part": cellOf(impl.OpPart, 5, a),
		"an in of other width": inCell(0, 3), "an in that is none": inCell(4, 1), "a register of other width": regCell(0, 3), "a register that is none": regCell(1, 4),
		"an in with operands": {Op: impl.OpIn, Width: 4, In: []int{a}}, "a register with operands": {Op: impl.OpReg, Width: 4, In: []int{a}},
		"bits of other width": {Op: impl.OpBits, Width: 3, Bits: "0101"}, "bits of other letters": {Op: impl.OpBits, Width: 3, Bits: "012"}, "no bits": {Op: impl.OpBits, Width: 1},
	} {
		wantsNet(t, what, cellNet(c), false)
	}
	for _, op := range []int{-1 << 63, -1, 0, 35, 1<<32 + 1, 256 + impl.OpNot, 1<<63 - 1} {
		wantsNet(t, fmt.Sprint("op ", op), cellNet(cellOf(op, 4, a)), false)
		wantsNet(t, fmt.Sprint("op ", op), cellNet(cellOf(op, 4, a, b)), false)
	}
}

func TestNetLimits(t *testing.T) {
	var n impl.Net
	for i := range impl.MaxSignals {
		name := fmt.Sprint(i)
		n.Ins = append(n.Ins, impl.NetPort{Name: name, Width: 1})
		n.Outs = append(n.Outs, impl.NetOut{Name: name, Cell: i})
		n.Checks = append(n.Checks, impl.NetOut{Name: name, Cell: impl.MaxCells - 1})
	}
	for i := range impl.MaxClocks {
		n.Clocks = append(n.Clocks, fmt.Sprint("clk", i))
	}
	for i := range impl.MaxRegs {
		n.Regs = append(n.Regs, impl.NetReg{Name: fmt.Sprint(i), Width: 1, Clock: i % 8, Next: 4000 - i, Init: "0"})
	}
	n.Cells = append(n.Cells, inCell(255, 1))
	for i := range impl.MaxCells - 1 {
		n.Cells = append(n.Cells, cellOf(impl.OpNot, 1, i))
	}
	wantsNet(t, "all full", n, true)
	more := func(change func(n *impl.Net)) impl.Net {
		made := n
		change(&made)
		return made
	}
	wantsNet(t, "an input more", more(func(n *impl.Net) { n.Ins = append(slices.Clone(n.Ins), impl.NetPort{Name: "more", Width: 1}) }), false)
	wantsNet(t, "an out more", more(func(n *impl.Net) { n.Outs = append(slices.Clone(n.Outs), impl.NetOut{Name: "more"}) }), false)
	wantsNet(t, "a check more", more(func(n *impl.Net) { n.Checks = append(slices.Clone(n.Checks), impl.NetOut{Name: "more"}) }), false)
	wantsNet(t, "a clock more", more(func(n *impl.Net) { n.Clocks = append(slices.Clone(n.Clocks), "more") }), false)
	wantsNet(t, "a register more", more(func(n *impl.Net) {
		n.Regs = append(slices.Clone(n.Regs), impl.NetReg{Name: "more", Width: 1, Init: "0"})
	}), false)
	wantsNet(t, "a cell more", more(func(n *impl.Net) { n.Cells = append(slices.Clone(n.Cells), bitsCell("0")) }), false)
	step := impl.Step{Ins: slices.Repeat([]string{"0"}, 256), Ticks: make([]bool, 8)}
	step.Ticks[3] = true
	rows, code := holdNetRun(t, n, []impl.Step{step, step})
	if code != impl.OK || rows[1].Checks[0] != "1" || rows[1].Regs[3] != "1" || rows[1].Regs[4] != "0" {
		t.Errorf("code %d, %v", code, rows)
	}
}

// stepsOf reads steps: each the inputs, a mark, and a letter for each clock.
func stepsOf(text string) []impl.Step {
	var steps []impl.Step
	for part := range strings.SplitSeq(text, ";") {
		var step impl.Step
		ins, ticks, _ := strings.Cut(part, "/")
		step.Ins = strings.Fields(ins)
		for _, letter := range strings.TrimSpace(ticks) {
			step.Ticks = append(step.Ticks, letter == 't')
		}
		steps = append(steps, step)
	}
	return steps
}

func rowsWritten(rows []impl.Row) string {
	var all []string
	for _, row := range rows {
		all = append(all, strings.Join(row.Outs, " ")+"/"+strings.Join(row.Checks, " ")+"/"+strings.Join(row.Regs, " "))
	}
	return strings.Join(all, "; ")
}

func TestNetRun(t *testing.T) {
	swap := impl.Net{
		Clocks: []string{"clk", "tck"},
		Cells:  []impl.Cell{regCell(0, 2), regCell(1, 2), regCell(2, 2), cellOf(impl.OpXor, 2, 0, 1)},
		Regs:   []impl.NetReg{{Name: "a", Width: 2, Next: 1, Init: "01"}, {Name: "b", Width: 2, Next: 0, Init: "10"}, {Name: "c", Width: 2, Clock: 1, Next: 0, Init: "00"}},
		Outs:   []impl.NetOut{{Name: "y", Cell: 3}, {Name: "z", Cell: 0}},
	}
	pass := impl.Net{Ins: []impl.NetPort{{Name: "a", Width: 3}}, Cells: []impl.Cell{inCell(0, 3), cellOf(impl.OpOdd, 1, 0)}, Outs: []impl.NetOut{{Name: "y", Cell: 0}}, Checks: []impl.NetOut{{Name: "c", Cell: 1}}}
	for what, c := range map[string]struct {
		n           impl.Net
		steps, want string
	}{
		"no clock ticks":                      {theNet(), "0101 0/--; 0011 1/--", "0000 0101/0/0000 1; 0000 0001/0/0000 1"},
		"outs and checks behind the tick":     {theNet(), "0101 0/t-; 0110 1/t-; 0111 1/t-", "0101 0101/1/0101 1; 0110 0111/1/0110 1; 0111 1000/1/0111 1"},
		"each clock has its registers":        {theNet(), "0101 0/-t; 0101 0/tt; 0000 1/-t", "0000 0101/0/0000 0; 0101 0101/1/0101 1; 0101 0110/0/0101 0"},
		"registers take their Nexts at once":  {swap, "/t-; /t-; /tt; /-t", "11 10//10 01 00; 11 01//01 10 00; 11 10//10 01 01; 11 10//10 01 10"},
		"a clock by itself":                   {swap, "/-t; /t-", "11 01//01 10 01; 11 10//10 01 01"},
		"nothing but inputs":                  {pass, "010/; 011/; 111/", "010/1/; 011/0/; 111/1/"},
		"it wraps round":                      {theNet(), "1111 0/t-; 0000 1/t-", "1111 1111/1/1111 1; 0000 0001/1/0000 1"},
		"the last inputs are those of a step": {theNet(), "0001 1/t-; 0000 0/--", "0001 0010/1/0001 1; 0001 0000/0/0001 1"},
	} {
		rows, code := holdNetRun(t, c.n, stepsOf(c.steps))
		if code != impl.OK || rowsWritten(rows) != c.want {
			t.Errorf("%s: code %d, %s, want %s", what, code, rowsWritten(rows), c.want)
		}
	}
}

// rightSteps are of inputs of 4 and 1 bits, and two clocks.
const rightSteps = "0101 0/t-; 0110 1/-t; 0111 1/tt"

// wrongSteps are like those, but for one of them.
func wrongSteps() map[string][]impl.Step {
	bad := func(change func(s *impl.Step)) []impl.Step {
		steps := stepsOf(rightSteps)
		change(&steps[1])
		return steps
	}
	return map[string][]impl.Step{
		"an empty step":            make([]impl.Step, 1),
		"an input less":            bad(func(s *impl.Step) { s.Ins = s.Ins[:1] }),
		"an input more":            bad(func(s *impl.Step) { s.Ins = append(s.Ins, "0") }),
		"a clock less":             bad(func(s *impl.Step) { s.Ticks = s.Ticks[:1] }),
		"a clock more":             bad(func(s *impl.Step) { s.Ticks = append(s.Ticks, false) }),
		"no bits":                  bad(func(s *impl.Step) { s.Ins[1] = "" }),
		"few bits":                 bad(func(s *impl.Step) { s.Ins[0] = "000" }),
		"many bits":                bad(func(s *impl.Step) { s.Ins[0] = "00000" }),
		"bits that are not known":  bad(func(s *impl.Step) { s.Ins[0] = "0x00" }),
		"a bit that is not driven": bad(func(s *impl.Step) { s.Ins[1] = "z" }),
		"no vector":                bad(func(s *impl.Step) { s.Ins[0] = "0200" }),
		"a very long text":         bad(func(s *impl.Step) { s.Ins[0] = zeros(1 << 20) }),
	}
}

func TestWrongSteps(t *testing.T) {
	wrong := theNet()
	wrong.Regs[0].Init = "x"
	wantsRun := func(what string, n impl.Net, steps []impl.Step, want int) {
		rows, code := holdNetRun(t, n, steps)
		if code != want || code != impl.OK && rows != nil || code == impl.OK && len(rows) != len(steps) {
			t.Errorf("%s: code %d, %d rows", what, code, len(rows))
		}
	}
	wantsRun("right", theNet(), stepsOf(rightSteps), impl.OK)
	wantsRun("no steps", theNet(), nil, impl.OK)
	wantsRun("nothing at all", impl.Net{}, nil, impl.OK)
	wantsRun("steps of nothing", impl.Net{}, make([]impl.Step, 3), impl.OK)
	wantsRun("no netlist", wrong, stepsOf(rightSteps), impl.ErrBad)
	for what, steps := range wrongSteps() {
		wantsRun(what, theNet(), steps, impl.ErrBad)
	}
	wantsRun("as many steps as can be", impl.Net{}, make([]impl.Step, impl.MaxList), impl.OK)
	wantsRun("a step more", impl.Net{}, make([]impl.Step, impl.MaxList+1), impl.ErrLong)
	wantsRun("a step more of no netlist", wrong, make([]impl.Step, impl.MaxList+1), impl.ErrLong)
	wantsRun("wrong steps, one more", theNet(), make([]impl.Step, impl.MaxList+1), impl.ErrLong)
}

// netPieces are all numbers, texts and truths of a netlist that can be changed.
func netPieces(n *impl.Net) (numbers []*int, texts []*string, signs []*bool) {
	for i := range n.Ins {
		numbers, texts = append(numbers, &n.Ins[i].Width), append(texts, &n.Ins[i].Name)
	}
	for i := range n.Clocks {
		texts = append(texts, &n.Clocks[i])
	}
	for i := range n.Regs {
		r := &n.Regs[i]
		numbers, texts = append(numbers, &r.Width, &r.Clock, &r.Next), append(texts, &r.Name, &r.Init)
	}
	for _, list := range [][]impl.NetOut{n.Outs, n.Checks} {
		for i := range list {
			numbers, texts = append(numbers, &list[i].Cell), append(texts, &list[i].Name)
		}
	}
	for i := range n.Cells {
		c := &n.Cells[i]
		numbers, texts, signs = append(numbers, &c.Op, &c.Width, &c.N), append(texts, &c.Bits), append(signs, &c.Signed)
		for k := range c.In {
			numbers = append(numbers, &c.In[k])
		}
	}
	return numbers, texts, signs
}

// A netlist with one piece changed is one where the chapter's rules say so, and runs as told.
func TestBentNets(t *testing.T) {
	right, wrong := 0, 0
	for seed := range uint64(400) {
		s := smithOf(seed+31, 0)
		f := s.design()
		for range 10 {
			n, code := impl.Lower(f)
			if code != impl.OK {
				break
			}
			steps := s.steps(n, 3)
			numbers, texts, signs := netPieces(&n)
			switch s.below(5) {
			case 0:
				text := texts[s.below(len(texts))]
				*text = s.oneOf("", *text+"0", "x", "0", *texts[s.below(len(texts))])
			case 1:
				sign := signs[s.below(len(signs))]
				*sign = !*sign
			case 2:
				c := &n.Cells[s.below(len(n.Cells))]
				*c = n.Cells[s.below(len(n.Cells))]
			default:
				*numbers[s.below(len(numbers))] += []int{1, -1, 2, -2, 31}[s.below(5)]
			}
			if got := impl.NetOK(n); got != netTold(n) {
				t.Fatalf("%s: %v", netShown(n), got)
			} else if got {
				right++
			} else {
				wrong++
			}
			holdNetRun(t, n, steps)
		}
	}
	if right < 300 || wrong < 1000 {
		t.Errorf("%d right, %d wrong", right, wrong)
	}
}

// roomyNet is a copy with room behind each list.
func roomyNet(n impl.Net) impl.Net {
	ins := append(slices.Clone(n.Ins), impl.NetPort{Name: "behind"})
	clocks := append(slices.Clone(n.Clocks), "behind")
	regs := append(slices.Clone(n.Regs), impl.NetReg{Name: "behind"})
	outs := append(slices.Clone(n.Outs), impl.NetOut{Name: "behind"})
	checks := append(slices.Clone(n.Checks), impl.NetOut{Name: "behind"})
	var cells []impl.Cell
	for _, c := range n.Cells {
		c.In = append(slices.Clone(c.In), -7)[:len(c.In)]
		cells = append(cells, c)
	}
	cells = append(cells, impl.Cell{Op: -7})
	return impl.Net{
		Ins: ins[:len(n.Ins)], Clocks: clocks[:len(n.Clocks)], Cells: cells[:len(n.Cells)],
		Regs: regs[:len(n.Regs)], Outs: outs[:len(n.Outs)], Checks: checks[:len(n.Checks)],
	}
}

// wholeNet writes a netlist out with what stands behind its lists.
func wholeNet(n impl.Net) string {
	text := fmt.Sprint(n.Ins[:cap(n.Ins)], n.Clocks[:cap(n.Clocks)], n.Regs[:cap(n.Regs)], n.Outs[:cap(n.Outs)], n.Checks[:cap(n.Checks)])
	for _, c := range n.Cells[:cap(n.Cells)] {
		text += fmt.Sprint(c, c.In[:cap(c.In)])
	}
	return text
}

// Promise 1: no argument is written into, and rows are new memory.
func TestNetRunKeepsArguments(t *testing.T) {
	for seed := range uint64(60) {
		s := smithOf(seed+900, 0)
		made, _ := impl.Lower(s.design())
		n := roomyNet(made)
		steps := s.steps(n, 5)
		told := wholeNet(n) + fmt.Sprint(steps)
		impl.NetOK(n)
		rows, _ := impl.NetRun(n, steps[:4])
		again, _ := impl.NetRun(n, steps[:4])
		if wholeNet(n)+fmt.Sprint(steps) != told {
			t.Fatalf("%s: the arguments were changed", told)
		}
		kept := rowsShown(rows)
		if rowsShown(again) != kept {
			t.Fatalf("%s: another answer", told)
		}
		for i, row := range again {
			for _, list := range [][]string{row.Outs, row.Checks, row.Regs} {
				whole := list[:cap(list)]
				for k := range whole {
					whole[k] = fmt.Sprint("changed", i)
				}
			}
			for k := range i {
				if strings.Contains(rowsShown(again[k:k+1]), fmt.Sprint("changed", i)) {
					t.Fatalf("%s: two rows share memory", told)
				}
			}
		}
		if rowsShown(rows) != kept || wholeNet(n)+fmt.Sprint(steps) != told {
			t.Fatalf("%s: two answers share memory", told)
		}
	}
}
