package tests

import (
	"fmt"
	"strings"
	"testing"

	"loop.example/g00031/impl"
)

// wantsBlastCode: the netlist has that code, and nothing else where it is not OK.
func wantsBlastCode(t *testing.T, what string, n impl.Net, want int) impl.Aig {
	t.Helper()
	a, code := holdBlast(t, n)
	if code != want || code != impl.OK && aigShown(a) != aigShown(impl.Aig{}) {
		t.Errorf("%s: code %d, want %d", what, code, want)
	}
	return a
}

// wideNet has so many bits of inputs, registers, outs and checks, in pieces of at most 64 (of checks 1).
func wideNet(ins, regs, outs, checks int) impl.Net {
	n := impl.Net{Clocks: []string{"clk"}, Cells: []impl.Cell{bitsCell("1")}}
	cell := func(width int) int {
		n.Cells = append(n.Cells, bitsCell(zeros(width)))
		return len(n.Cells) - 1
	}
	for left := ins; left > 0; left -= 64 {
		n.Ins = append(n.Ins, impl.NetPort{Name: fmt.Sprint("a", left), Width: min(left, 64)})
	}
	for left := regs; left > 0; left -= 64 {
		width := min(left, 64)
		n.Regs = append(n.Regs, impl.NetReg{Name: fmt.Sprint("r", left), Width: width, Init: zeros(width), Next: cell(width)})
	}
	for left := outs; left > 0; left -= 64 {
		n.Outs = append(n.Outs, impl.NetOut{Name: fmt.Sprint("y", left), Cell: cell(min(left, 64))})
	}
	for left := checks; left > 0; left-- {
		n.Checks = append(n.Checks, impl.NetOut{Name: fmt.Sprint("k", left)})
	}
	return n
}

func TestBlastBits(t *testing.T) {
	for _, c := range []struct{ ins, regs, outs, checks, want int }{
		{2048, 0, 0, 0, impl.OK}, {2049, 0, 0, 0, impl.ErrMany},
		{0, 2048, 0, 0, impl.OK}, {0, 2049, 0, 0, impl.ErrMany},
		{1000, 1048, 0, 0, impl.OK}, {1001, 1048, 0, 0, impl.ErrMany}, {1000, 1049, 0, 0, impl.ErrMany}, {2048, 1, 0, 0, impl.ErrMany}, {1, 2048, 0, 0, impl.ErrMany},
		{0, 0, 2048, 0, impl.OK}, {0, 0, 2049, 0, impl.ErrMany},
		{1024, 1024, 2048, 256, impl.OK}, {1024, 1025, 2048, 256, impl.ErrMany}, {1024, 1024, 2049, 256, impl.ErrMany},
		{256 * 64, 0, 0, 0, impl.ErrMany}, {0, 256 * 64, 0, 0, impl.ErrMany}, {0, 0, 256 * 64, 0, impl.ErrMany}, {256 * 64, 256 * 64, 256 * 64, 256, impl.ErrMany},
	} {
		a := wantsBlastCode(t, fmt.Sprint(c), wideNet(c.ins, c.regs, c.outs, c.checks), c.want)
		if c.want == impl.OK && (len(a.Ins) != c.ins || len(a.Latches) != c.regs || len(a.Outs) != c.outs || len(a.Checks) != c.checks) {
			t.Errorf("%v: %d inputs, %d latches, %d outs, %d checks", c, len(a.Ins), len(a.Latches), len(a.Outs), len(a.Checks))
		}
	}
}

// andNet makes so many ands: of cells of 64 bits, each of which reads the one ahead of it and an input, and at last of fewer.
func andNet(ands int) impl.Net {
	n := impl.Net{Clocks: []string{"clk"}}
	for i := range 8 {
		n.Ins = append(n.Ins, impl.NetPort{Name: fmt.Sprint("a", i), Width: 64})
		n.Cells = append(n.Cells, inCell(i, 64))
	}
	last := 0
	for i := 1; ands >= 64; i++ {
		n.Cells = append(n.Cells, cellOf(impl.OpAnd, 64, last, 1+i%7))
		last = len(n.Cells) - 1
		ands -= 64
	}
	for k := range 64 {
		part, other := cellOf(impl.OpPart, 1, last), cellOf(impl.OpPart, 1, 0)
		part.N, other.N = k, (k+1)%64
		at := len(n.Cells)
		n.Cells = append(n.Cells, part, other)
		if k < ands {
			n.Cells = append(n.Cells, cellOf(impl.OpAnd, 1, at, at+1))
		}
	}
	n.Outs = []impl.NetOut{{Name: "y", Cell: last}}
	return n
}

// All ands count that were made, whether they are needed or not.
func TestBlastAnds(t *testing.T) {
	for ands, want := range map[int]int{0: impl.OK, 8191: impl.OK, impl.MaxAnds: impl.OK, impl.MaxAnds + 1: impl.ErrMany, impl.MaxAnds + 64: impl.ErrMany, 100000: impl.ErrMany} {
		n := andNet(ands)
		a := wantsBlastCode(t, fmt.Sprint(ands, " ands"), n, want)
		if want == impl.OK && len(a.Ands) != ands/64*64 {
			t.Errorf("%d ands: %d are needed", ands, len(a.Ands))
		}
		n.Outs = nil
		if a := wantsBlastCode(t, fmt.Sprint(ands, " ands, none needed"), n, want); len(a.Ands) != 0 {
			t.Errorf("%d ands: %d are needed", ands, len(a.Ands))
		}
		// the same cells again make no more
		for _, c := range n.Cells {
			if len(n.Cells) < 4000 && c.Op == impl.OpAnd {
				n.Cells = append(n.Cells, c)
			}
		}
		wantsBlastCode(t, fmt.Sprint(ands, " ands, each of them twice"), n, want)
	}
	full := andNet(impl.MaxAnds)
	a := wantsBlastCode(t, "as many as can be", full, impl.OK)
	if len(a.Ands) != impl.MaxAnds || a.Ands[8191].B != 2*(512+1+8191-64) {
		t.Errorf("%d ands, the last one %v", len(a.Ands), a.Ands[len(a.Ands)-1])
	}
	w := wirerOf(9)
	holdBlasted(t, full, stepsFor(&w.choices, full, 2))
	// an operation that goes far beyond
	wide := impl.Net{Ins: []impl.NetPort{{Name: "a", Width: 64}, {Name: "b", Width: 64}}, Cells: []impl.Cell{inCell(0, 64), inCell(1, 64), cellOf(impl.OpMul, 64, 0, 1)}}
	wantsBlastCode(t, "a wide product", wide, impl.ErrMany)
	for len(wide.Cells) < impl.MaxCells {
		wide.Cells = append(wide.Cells, wide.Cells[2])
	}
	wantsBlastCode(t, "very many wide products", wide, impl.ErrMany)
}

func TestBlastOfNoNet(t *testing.T) {
	for what, n := range wrongNets() {
		wantsBlastCode(t, what, n, impl.ErrBad)
	}
	// what is no netlist has that code ahead of all others
	n := wideNet(2049, 0, 0, 0)
	n.Ins[0].Name = strings.Repeat("n", 1000)
	n.Outs = []impl.NetOut{{Name: "y", Cell: 99}}
	wantsBlastCode(t, "too many bits and no netlist", n, impl.ErrBad)
}

// namedNet has an input of two bits, a clock, a register of two bits, two outs of two bits and two checks.
func namedNet() impl.Net {
	return impl.Net{
		Ins:    []impl.NetPort{{Name: "a", Width: 2}, {Name: "b", Width: 1}},
		Clocks: []string{"c", "d"},
		Cells:  []impl.Cell{inCell(0, 2), inCell(1, 1)},
		Regs:   []impl.NetReg{{Name: "r", Width: 2, Init: "00"}, {Name: "s", Width: 1, Init: "0", Next: 1}},
		Outs:   []impl.NetOut{{Name: "y"}, {Name: "z", Cell: 1}},
		Checks: []impl.NetOut{{Name: "k", Cell: 1}, {Name: "q", Cell: 1}},
	}
}

// Names of bits are at most MaxLine bytes long, with what is put behind them.
func TestBlastLongNames(t *testing.T) {
	long := func(size int) string { return strings.Repeat("n", size) }
	for what, c := range map[string]struct {
		change func(n *impl.Net, name string)
		most   int
	}{
		"an input of one bit":    {func(n *impl.Net, name string) { n.Ins[1].Name = name }, 1000},
		"an input of two":        {func(n *impl.Net, name string) { n.Ins[0].Name = name }, 997},
		"an input of ten":        {func(n *impl.Net, name string) { n.Ins = append(n.Ins, impl.NetPort{Name: name, Width: 10}) }, 997},
		"an input of eleven":     {func(n *impl.Net, name string) { n.Ins = append(n.Ins, impl.NetPort{Name: name, Width: 11}) }, 996},
		"an input of 64":         {func(n *impl.Net, name string) { n.Ins = append(n.Ins, impl.NetPort{Name: name, Width: 64}) }, 996},
		"a clock":                {func(n *impl.Net, name string) { n.Clocks[1] = name }, 1000},
		"a register of one bit":  {func(n *impl.Net, name string) { n.Regs[1].Name = name }, 1000},
		"a register of two bits": {func(n *impl.Net, name string) { n.Regs[0].Name = name }, 997},
		"an out of one bit":      {func(n *impl.Net, name string) { n.Outs[1].Name = name }, 1000},
		"an out of two bits":     {func(n *impl.Net, name string) { n.Outs[0].Name = name }, 997},
		"a check":                {func(n *impl.Net, name string) { n.Checks[1].Name = name }, 1000},
	} {
		for size := 995; size <= 1000; size++ {
			n := namedNet()
			c.change(&n, long(size))
			want := impl.OK
			if size > c.most {
				want = impl.ErrLong
			}
			wantsBlastCode(t, fmt.Sprint(what, ", ", size), n, want)
		}
		n := namedNet()
		c.change(&n, long(1001))
		wantsBlastCode(t, what+", no netlist", n, impl.ErrBad)
	}
}

// Names of bits that are those of others.
func TestBlastNamesTwice(t *testing.T) {
	for what, c := range map[string]struct {
		change func(n *impl.Net)
		want   int
	}{
		"nothing":                            {func(n *impl.Net) {}, impl.OK},
		"an input like a bit of another one": {func(n *impl.Net) { n.Ins[1].Name = "a[0]" }, impl.ErrTwice},
		"an input like its last bit":         {func(n *impl.Net) { n.Ins[1].Name = "a[1]" }, impl.ErrTwice},
		"an input like a bit that it lacks":  {func(n *impl.Net) { n.Ins[1].Name = "a[2]" }, impl.OK},
		"an input like a bit of one behind it": {func(n *impl.Net) {
			n.Ins[0], n.Ins[1].Name, n.Cells[0], n.Cells[1] = impl.NetPort{Name: "b[1]", Width: 2}, "b", inCell(0, 2), inCell(1, 1)
		}, impl.OK},
		"a bit like a bit of one behind it": {func(n *impl.Net) {
			n.Ins = append(n.Ins, impl.NetPort{Name: "b[1]", Width: 1}, impl.NetPort{Name: "e", Width: 64}, impl.NetPort{Name: "e[63]", Width: 1})
		}, impl.ErrTwice},
		"bits of bits":                           {func(n *impl.Net) { n.Ins = append(n.Ins, impl.NetPort{Name: "a[0]", Width: 2}) }, impl.OK},
		"a clock like a bit of an input":         {func(n *impl.Net) { n.Clocks[1] = "a[1]" }, impl.ErrTwice},
		"a clock like an input's name":           {func(n *impl.Net) { n.Clocks[1] = "a" }, impl.ErrBad},
		"a register like a bit of another one":   {func(n *impl.Net) { n.Regs[1].Name = "r[1]" }, impl.ErrTwice},
		"an out like a bit of another one":       {func(n *impl.Net) { n.Outs[1].Name = "y[0]" }, impl.ErrTwice},
		"a check with brackets":                  {func(n *impl.Net) { n.Checks[1].Name = "k[0]" }, impl.OK},
		"a register like a bit of an input":      {func(n *impl.Net) { n.Regs[1].Name = "a[0]" }, impl.OK},
		"an out like bits of inputs, registers":  {func(n *impl.Net) { n.Outs[1].Name, n.Checks[0].Name = "a[0]", "r[0]" }, impl.OK},
		"an out like a check":                    {func(n *impl.Net) { n.Checks[0].Name = "y[0]" }, impl.OK},
		"a register of the name of its own bits": {func(n *impl.Net) { n.Regs[0].Name, n.Regs[1].Name = "r", "r[2]" }, impl.OK},
	} {
		n := namedNet()
		c.change(&n)
		wantsBlastCode(t, what, n, c.want)
	}
}

// ErrMany counts ahead of ErrLong, that ahead of ErrTwice, wherever they are.
func TestBlastOrderOfFaults(t *testing.T) {
	bits := func(n *impl.Net) {
		for i := range 32 {
			n.Ins = append(n.Ins, impl.NetPort{Name: fmt.Sprint("wide", i), Width: 64})
		}
	}
	outs := func(n *impl.Net) {
		n.Cells = append(n.Cells, bitsCell(zeros(64)))
		for i := range 32 {
			n.Outs = append(n.Outs, impl.NetOut{Name: fmt.Sprint("wide", i), Cell: len(n.Cells) - 1})
		}
	}
	ands := func(n *impl.Net) {
		at := len(n.Cells)
		n.Ins = append(n.Ins, impl.NetPort{Name: "p", Width: 64}, impl.NetPort{Name: "q", Width: 64})
		n.Cells = append(n.Cells, inCell(2, 64), inCell(3, 64), cellOf(impl.OpMul, 64, at, at+1))
	}
	longIn := func(n *impl.Net) { n.Ins[0].Name = strings.Repeat("n", 998) }
	longOut := func(n *impl.Net) { n.Outs[0].Name = strings.Repeat("n", 998) }
	twiceIn := func(n *impl.Net) { n.Clocks[0] = "a[0]" }
	twiceOut := func(n *impl.Net) { n.Outs[1].Name = "y[1]" }
	wrong := func(n *impl.Net) { n.Checks[1].Name = "k" }
	for what, c := range map[string]struct {
		changes []func(n *impl.Net)
		want    int
	}{
		"bits and a long name":             {[]func(n *impl.Net){bits, longIn}, impl.ErrMany},
		"outs and a long name":             {[]func(n *impl.Net){outs, longIn}, impl.ErrMany},
		"ands and a long name":             {[]func(n *impl.Net){ands, longIn}, impl.ErrMany},
		"ands and a name twice":            {[]func(n *impl.Net){ands, twiceIn}, impl.ErrMany},
		"bits and a name twice":            {[]func(n *impl.Net){bits, twiceIn}, impl.ErrMany},
		"outs, long and twice":             {[]func(n *impl.Net){outs, longOut, twiceIn}, impl.ErrMany},
		"a long out, an input twice":       {[]func(n *impl.Net){longOut, twiceIn}, impl.ErrLong},
		"a long input, an out twice":       {[]func(n *impl.Net){longIn, twiceOut}, impl.ErrLong},
		"a long out alone":                 {[]func(n *impl.Net){longOut}, impl.ErrLong},
		"twice alone":                      {[]func(n *impl.Net){twiceOut}, impl.ErrTwice},
		"all of them":                      {[]func(n *impl.Net){bits, outs, longIn, longOut, twiceIn}, impl.ErrMany},
		"all of them and no netlist":       {[]func(n *impl.Net){bits, outs, longIn, longOut, twiceIn, wrong}, impl.ErrBad},
		"ands, long, twice and no netlist": {[]func(n *impl.Net){ands, longOut, twiceIn, wrong}, impl.ErrBad},
	} {
		n := namedNet()
		for _, change := range c.changes {
			change(&n)
		}
		wantsBlastCode(t, what, n, c.want)
	}
}
