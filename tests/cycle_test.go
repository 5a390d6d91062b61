package tests

import (
	"fmt"
	"slices"
	"testing"

	"loop.example/g00031/impl"
)

func codeShown(c impl.Code) string { return fmt.Sprintf("%+v", c) }

// holdRunCode holds a run of a code against what is told of it.
func holdRunCode(t *testing.T, c impl.Code, steps []impl.Step) ([]impl.Row, int) {
	t.Helper()
	got, code := impl.RunCode(c, steps)
	want, wantCode := runCodeTold(c, steps)
	if code != wantCode || rowsShown(got) != rowsShown(want) {
		t.Fatalf("%s\n%v:\ncode %d, want %d\n%s, want\n%s", codeShown(c), steps, code, wantCode, rowsShown(got), rowsShown(want))
	}
	return got, code
}

func wantsProgram(t *testing.T, what string, c impl.Code, want bool) {
	t.Helper()
	if got := impl.CodeOK(c); got != want {
		t.Errorf("%s: %v", what, got)
	}
	if codeTold(c) != want {
		t.Errorf("%s: told otherwise", what)
	}
	code := impl.OK
	if !want {
		code = impl.ErrBad
	}
	if rows, got := impl.RunCode(c, nil); got != code || len(rows) != 0 {
		t.Errorf("%s: run with code %d, %d rows", what, got, len(rows))
	}
}

// instr puts into a slot what an Op gives of others.
func instr(dst, op, width int, reads ...int) impl.Instr {
	i := impl.Instr{Op: op, Dst: dst, Width: width}
	for k, field := range []*int{&i.A, &i.B, &i.C}[:len(reads)] {
		*field = reads[k]
	}
	return i
}

func numberInstr(dst, op, n, width int) impl.Instr {
	return impl.Instr{Op: op, Dst: dst, N: n, Width: width}
}

func bitsInstr(dst int, bits string) impl.Instr {
	return impl.Instr{Op: impl.OpBits, Dst: dst, Width: len(bits), Bits: bits}
}

// theCode counts up by e, or takes a: two registers of two clocks. Slot 1 has e at first, then the choice; slot 4 is not used.
func theCode() impl.Code {
	return impl.Code{
		Slots: 6,
		Instrs: []impl.Instr{
			numberInstr(0, impl.OpIn, 0, 4), numberInstr(1, impl.OpIn, 1, 1), numberInstr(2, impl.OpReg, 0, 4), bitsInstr(3, "0001"),
			instr(3, impl.OpAdd, 4, 2, 3), instr(1, impl.OpChoose, 4, 1, 3, 0), instr(0, impl.OpEq, 1, 2, 0), numberInstr(5, impl.OpReg, 1, 1), instr(5, impl.OpNot, 1, 5),
		},
		Ins:    []int{4, 1},
		Clocks: 2,
		Inits:  []string{"0000", "1"},
		Ticks:  []int{0, 1},
		Nexts:  []int{1, 5},
		Outs:   []int{2, 1},
		Checks: []int{0},
	}
}

func TestCodeOK(t *testing.T) {
	const low, high = -1 << 63, 1<<63 - 1
	wantsProgram(t, "nothing", impl.Code{}, true)
	wantsProgram(t, "by hand", theCode(), true)
	wantsProgram(t, "slots alone", impl.Code{Slots: 7}, true)
	wantsProgram(t, "clocks alone", impl.Code{Clocks: 8}, true)
	wantsProgram(t, "inputs alone", impl.Code{Ins: []int{1, 64}}, true)
	wantsProgram(t, "an empty instruction", impl.Code{Slots: 1, Instrs: make([]impl.Instr, 1)}, false)
	wantsProgram(t, "an input of no width", impl.Code{Ins: make([]int, 1)}, false)
	wantsProgram(t, "an empty Init", impl.Code{Slots: 1, Clocks: 1, Inits: []string{""}, Ticks: []int{0}, Nexts: []int{0}}, false)
	wantsProgram(t, "an out of nothing", impl.Code{Outs: make([]int, 1)}, false)
	wantsProgram(t, "a check of nothing", impl.Code{Checks: make([]int, 1)}, false)
	for what, c := range map[string]struct {
		change func(c *impl.Code)
		want   bool
	}{
		"more slots":                     {func(c *impl.Code) { c.Slots = 7 }, true},
		"a slot less":                    {func(c *impl.Code) { c.Slots = 5 }, false},
		"no slots":                       {func(c *impl.Code) { c.Slots = 0 }, false},
		"slots below":                    {func(c *impl.Code) { c.Slots = -1 }, false},
		"slots far below":                {func(c *impl.Code) { c.Slots = low }, false},
		"slots far above":                {func(c *impl.Code) { c.Slots = high }, false},
		"no width of an input":           {func(c *impl.Code) { c.Ins[1] = 0 }, false},
		"a width below of an input":      {func(c *impl.Code) { c.Ins[0] = -4 }, false},
		"another width of an input":      {func(c *impl.Code) { c.Ins[1] = 2 }, false},
		"an input less":                  {func(c *impl.Code) { c.Ins = c.Ins[:1] }, false},
		"an input that is not read":      {func(c *impl.Code) { c.Ins = append(c.Ins, 64) }, true},
		"an unread input of no width":    {func(c *impl.Code) { c.Ins = append(c.Ins, 0) }, false},
		"an unread input of great width": {func(c *impl.Code) { c.Ins = append(c.Ins, 65) }, false},
		"more clocks":                    {func(c *impl.Code) { c.Clocks = 8 }, true},
		"a clock less":                   {func(c *impl.Code) { c.Clocks = 1 }, false},
		"clocks below":                   {func(c *impl.Code) { c.Clocks = -1 }, false},
		"clocks far below":               {func(c *impl.Code) { c.Clocks = low }, false},
		"too many clocks":                {func(c *impl.Code) { c.Clocks = 9 }, false},
		"clocks far above":               {func(c *impl.Code) { c.Clocks = high }, false},
		"another Init":                   {func(c *impl.Code) { c.Inits[0] = "1010" }, true},
		"a short Init":                   {func(c *impl.Code) { c.Inits[0] = "101" }, false},
		"a long Init":                    {func(c *impl.Code) { c.Inits[0] = "10100" }, false},
		"no Init":                        {func(c *impl.Code) { c.Inits[0] = "" }, false},
		"an Init that is not known":      {func(c *impl.Code) { c.Inits[0] = "000x" }, false},
		"an Init that is not driven":     {func(c *impl.Code) { c.Inits[1] = "z" }, false},
		"an Init that is none":           {func(c *impl.Code) { c.Inits[1] = "2" }, false},
		"a very long Init":               {func(c *impl.Code) { c.Inits[1] = zeros(1 << 20) }, false},
		"an Init less":                   {func(c *impl.Code) { c.Inits = c.Inits[:1] }, false},
		"an Init more":                   {func(c *impl.Code) { c.Inits = append(c.Inits, "0") }, false},
		"one more of Inits and Ticks":    {func(c *impl.Code) { c.Inits, c.Ticks = append(c.Inits, "0"), append(c.Ticks, 0) }, false},
		"one more of Inits and Nexts":    {func(c *impl.Code) { c.Inits, c.Nexts = append(c.Inits, "0"), append(c.Nexts, 0) }, false},
		"a register more": {func(c *impl.Code) {
			c.Inits, c.Ticks, c.Nexts = append(c.Inits, "0"), append(c.Ticks, 0), append(c.Nexts, 0)
		}, true},
		"another clock of a register":        {func(c *impl.Code) { c.Ticks[0] = 1 }, true},
		"a clock below of a register":        {func(c *impl.Code) { c.Ticks[0] = -1 }, false},
		"a clock above of a register":        {func(c *impl.Code) { c.Ticks[0] = 2 }, false},
		"a clock far above of a register":    {func(c *impl.Code) { c.Ticks[1] = high }, false},
		"one of Ticks less":                  {func(c *impl.Code) { c.Ticks = c.Ticks[:1] }, false},
		"one of Ticks more":                  {func(c *impl.Code) { c.Ticks = append(c.Ticks, 0) }, false},
		"one of Nexts less":                  {func(c *impl.Code) { c.Nexts = c.Nexts[:1] }, false},
		"one of Nexts more":                  {func(c *impl.Code) { c.Nexts = append(c.Nexts, 0) }, false},
		"another Next":                       {func(c *impl.Code) { c.Nexts[0] = 3 }, true},
		"a Next of other width":              {func(c *impl.Code) { c.Nexts[0] = 5 }, false},
		"a Next of the width that was there": {func(c *impl.Code) { c.Nexts[0] = 0 }, false},
		"a Next of a slot without anything":  {func(c *impl.Code) { c.Nexts[0] = 4 }, false},
		"a Next below":                       {func(c *impl.Code) { c.Nexts[0] = -1 }, false},
		"a Next above":                       {func(c *impl.Code) { c.Nexts[0] = 6 }, false},
		"a Next far above":                   {func(c *impl.Code) { c.Nexts[1] = high }, false},
		"no outs":                            {func(c *impl.Code) { c.Outs = nil }, true},
		"an out of any width":                {func(c *impl.Code) { c.Outs[0] = 5 }, true},
		"an out twice":                       {func(c *impl.Code) { c.Outs[0] = c.Outs[1] }, true},
		"an out of a slot without anything":  {func(c *impl.Code) { c.Outs[1] = 4 }, false},
		"an out below":                       {func(c *impl.Code) { c.Outs[0] = -1 }, false},
		"an out above":                       {func(c *impl.Code) { c.Outs[1] = 6 }, false},
		"an out far below":                   {func(c *impl.Code) { c.Outs[1] = low }, false},
		"no checks":                          {func(c *impl.Code) { c.Checks = nil }, true},
		"another check":                      {func(c *impl.Code) { c.Checks[0] = 5 }, true},
		"a check of four bits":               {func(c *impl.Code) { c.Checks[0] = 2 }, false},
		"a check whose slot had one bit":     {func(c *impl.Code) { c.Checks[0] = 1 }, false},
		"a check of a slot without anything": {func(c *impl.Code) { c.Checks[0] = 4 }, false},
		"a check below":                      {func(c *impl.Code) { c.Checks[0] = -1 }, false},
		"a check above":                      {func(c *impl.Code) { c.Checks[0] = 6 }, false},
		"a slot into which nothing was put":  {func(c *impl.Code) { c.Instrs[4].A = 4 }, false},
		"a slot that is put into behind":     {func(c *impl.Code) { c.Instrs[4].A = 5 }, false},
		"a slot that it puts into itself":    {func(c *impl.Code) { c.Instrs[8].A, c.Instrs[8].Dst = 4, 4 }, false},
		"a slot that is none":                {func(c *impl.Code) { c.Instrs[4].B = 6 }, false},
		"a slot below":                       {func(c *impl.Code) { c.Instrs[4].B = -1 }, false},
		"a slot far below":                   {func(c *impl.Code) { c.Instrs[5].C = low }, false},
		"a slot far above":                   {func(c *impl.Code) { c.Instrs[5].A = high }, false},
		"a slot of what it was ahead":        {func(c *impl.Code) { c.Instrs[6] = instr(0, impl.OpEq, 1, 2, 1) }, true},
		"a slot of other width by then":      {func(c *impl.Code) { c.Instrs[8] = instr(5, impl.OpNot, 4, 0) }, false},
		"a Dst that is none":                 {func(c *impl.Code) { c.Instrs[7].Dst = 6 }, false},
		"a Dst below":                        {func(c *impl.Code) { c.Instrs[7].Dst = -1 }, false},
		"a Dst far above":                    {func(c *impl.Code) { c.Instrs[7].Dst = high }, false},
		"a Dst that nothing reads":           {func(c *impl.Code) { c.Instrs = append(c.Instrs, bitsInstr(4, "1")) }, true},
		"an instruction less":                {func(c *impl.Code) { c.Instrs = slices.Delete(c.Instrs, 3, 4) }, false},
		"instructions exchanged":             {func(c *impl.Code) { c.Instrs[3], c.Instrs[4] = c.Instrs[4], c.Instrs[3] }, false},
		"an instruction again":               {func(c *impl.Code) { c.Instrs = append(c.Instrs, c.Instrs[8]) }, true},
	} {
		code := theCode()
		c.change(&code)
		wantsProgram(t, what, code, c.want)
	}
}

// instrCode has an instruction behind ins of 4, 4, 3 and 1 bits, a register of 4 and a constant of 64; the last slot but one holds nothing.
func instrCode(i impl.Instr) impl.Code {
	return impl.Code{
		Slots: 8,
		Instrs: []impl.Instr{
			numberInstr(0, impl.OpIn, 0, 4), numberInstr(1, impl.OpIn, 1, 4), numberInstr(2, impl.OpIn, 2, 3), numberInstr(3, impl.OpIn, 3, 1),
			numberInstr(4, impl.OpReg, 0, 4), bitsInstr(5, zeros(64)), i,
		},
		Ins:    []int{4, 4, 3, 1},
		Clocks: 1,
		Inits:  []string{"1010"},
		Ticks:  []int{0},
		Nexts:  []int{4},
		Outs:   []int{7},
	}
}

// rightInstrs has one of each Op at least, which put into slot 7.
func rightInstrs() map[string]impl.Instr {
	const a, b, w, e, r, wide = 0, 1, 2, 3, 4, 5
	part := instr(7, impl.OpPart, 2, b)
	part.N = 2
	signed := instr(7, impl.OpSize, 64, b)
	signed.Signed = true
	right := map[string]impl.Instr{
		"bits": bitsInstr(7, "0110"), "one bit": bitsInstr(7, "1"), "64 bits": bitsInstr(7, zeros(64)), "an in": numberInstr(7, impl.OpIn, 2, 3), "a register": numberInstr(7, impl.OpReg, 0, 4),
		"choose": instr(7, impl.OpChoose, 4, w, a, r), "choose, other": instr(7, impl.OpChoose, 3, b, w, w), "join": instr(7, impl.OpJoin, 7, w, b), "join of the same": instr(7, impl.OpJoin, 8, b, b),
		"wider": instr(7, impl.OpSize, 5, b), "wider, signed": signed, "less": instr(7, impl.OpSize, 3, wide), "part": part, "all of it": instr(7, impl.OpPart, 4, b),
	}
	for op := impl.OpAnd; op <= impl.OpMul; op++ {
		right[fmt.Sprint(op)] = instr(7, op, 4, b, r)
	}
	for _, op := range []int{impl.OpEq, impl.OpNe, impl.OpLt, impl.OpLe} {
		right[fmt.Sprint(op)] = instr(7, op, 1, b, r)
	}
	for op := impl.OpShl; op <= impl.OpSar; op++ {
		right[fmt.Sprint(op)] = instr(7, op, 4, b, w)
	}
	right["17"], right["18"] = instr(7, impl.OpBoth, 1, b, w), instr(7, impl.OpEither, 1, w, e)
	right["19"], right["20"] = instr(7, impl.OpNot, 4, b), instr(7, impl.OpNeg, 3, w)
	for op := impl.OpAll; op <= impl.OpNone; op++ {
		right[fmt.Sprint(op)] = instr(7, op, 1, b)
	}
	return right
}

func TestCodeInstrs(t *testing.T) {
	for what, i := range rightInstrs() {
		with := func(change func(i *impl.Instr)) impl.Code {
			made := i
			change(&made)
			return instrCode(made)
		}
		wantsProgram(t, what, instrCode(i), true)
		holdRunCode(t, instrCode(i), stepsOf("1010 0110 101 1/t; 0111 0000 010 0/-; 1111 1101 111 1/t"))
		wantsProgram(t, what+" of no width", with(func(i *impl.Instr) { i.Width = 0 }), false)
		wantsProgram(t, what+" of a width below", with(func(i *impl.Instr) { i.Width = -i.Width }), false)
		wantsProgram(t, what+" of a great width", with(func(i *impl.Instr) { i.Width = 65 }), false)
		wantsProgram(t, what+" with N", with(func(i *impl.Instr) { i.N += 7 }), false)
		wantsProgram(t, what+" with N far above", with(func(i *impl.Instr) { i.N = 1<<63 - 1 }), false)
		wantsProgram(t, what+" with N below", with(func(i *impl.Instr) { i.N = -1 }), false)
		wantsProgram(t, what+" with bits more", with(func(i *impl.Instr) { i.Bits += "0" }), false)
		wantsProgram(t, what+" with an unknown bit", with(func(i *impl.Instr) { i.Bits = "x" + i.Bits[min(1, len(i.Bits)):] }), false)
		wantsProgram(t, what+" with an undriven bit", with(func(i *impl.Instr) { i.Bits = "z" + i.Bits[min(1, len(i.Bits)):] }), false)
		wantsProgram(t, what+" with a very long text", with(func(i *impl.Instr) { i.Bits = zeros(1 << 20) }), false)
		for k := range 3 {
			field := func(i *impl.Instr) *int { return []*int{&i.A, &i.B, &i.C}[k] }
			taken := k < slotsTaken(i.Op)
			wantsProgram(t, fmt.Sprint(what, " of nothing at ", k), with(func(i *impl.Instr) { *field(i) = 6 }), false)
			wantsProgram(t, fmt.Sprint(what, " of its own at ", k), with(func(i *impl.Instr) { *field(i) = 7 }), false)
			wantsProgram(t, fmt.Sprint(what, " of no slot at ", k), with(func(i *impl.Instr) { *field(i) = 8 }), false)
			wantsProgram(t, fmt.Sprint(what, " of a slot below at ", k), with(func(i *impl.Instr) { *field(i) = -1 }), false)
			if !taken {
				wantsProgram(t, fmt.Sprint(what, " with a slot more at ", k), with(func(i *impl.Instr) { *field(i) = 1 }), false)
			}
		}
		signs := i.Op == impl.OpLt || i.Op == impl.OpLe || i.Op == impl.OpSize && i.Width > 4
		wantsProgram(t, what+" signed", with(func(i *impl.Instr) { i.Signed = true }), signs)
		wantsProgram(t, what+" not signed", with(func(i *impl.Instr) { i.Signed = false }), true)
	}
}

func TestWrongInstrs(t *testing.T) {
	const a, b, w, e, wide = 0, 1, 2, 3, 5
	for what, i := range map[string]impl.Instr{
		"a division": instr(7, impl.OpDiv, 4, a, b), "a rest": instr(7, impl.OpRem, 4, a, b), "the same": instr(7, impl.OpSame, 1, a, b),
		"a signal": instr(7, impl.OpSig, 4), "a word": instr(7, impl.OpMem, 4, a), "a bit by an index": instr(7, impl.OpPick, 1, a),
		"unlike operands": instr(7, impl.OpAdd, 4, a, w), "unlike compared": instr(7, impl.OpEq, 1, a, w), "a comparison of two bits": instr(7, impl.OpLt, 2, a, b),
		"a shift of the right one's width": instr(7, impl.OpShl, 3, a, w), "choose, unlike": instr(7, impl.OpChoose, 4, a, a, w), "choose, unlike the other way": instr(7, impl.OpChoose, 4, a, w, a),
		"join too short": instr(7, impl.OpJoin, 6, w, a), "join too long": instr(7, impl.OpJoin, 65, wide, e), "join of three": instr(7, impl.OpJoin, 8, w, a, e), "join of one": instr(7, impl.OpJoin, 4, a),
		"size of the same width": instr(7, impl.OpSize, 4, a), "a part above": {Op: impl.OpPart, Dst: 7, Width: 2, N: 3, A: a}, "a wide part": instr(7, impl.OpPart, 5, a),
		"less, signed": {Op: impl.OpSize, Dst: 7, Width: 3, Signed: true, A: a}, "an in of other width": numberInstr(7, impl.OpIn, 0, 3), "an in that is none": numberInstr(7, impl.OpIn, 4, 1),
		"a register of other width": numberInstr(7, impl.OpReg, 0, 3), "a register that is none": numberInstr(7, impl.OpReg, 1, 4),
		"bits of other width": {Op: impl.OpBits, Dst: 7, Width: 3, Bits: "0101"}, "bits of other letters": {Op: impl.OpBits, Dst: 7, Width: 3, Bits: "012"}, "no bits": {Op: impl.OpBits, Dst: 7, Width: 1},
	} {
		wantsProgram(t, what, instrCode(i), false)
	}
	for _, op := range []int{-1 << 63, -1, 0, 35, 1<<32 + 1, 256 + impl.OpNot, 1<<63 - 1} {
		wantsProgram(t, fmt.Sprint("op ", op), instrCode(instr(7, op, 4)), false)
		wantsProgram(t, fmt.Sprint("op ", op), instrCode(instr(7, op, 4, b)), false)
		wantsProgram(t, fmt.Sprint("op ", op), instrCode(instr(7, op, 4, b, b)), false)
	}
}

func TestRunCode(t *testing.T) {
	swap := impl.Code{
		Slots: 4, Clocks: 2, Instrs: []impl.Instr{numberInstr(0, impl.OpReg, 0, 2), numberInstr(1, impl.OpReg, 1, 2), numberInstr(2, impl.OpReg, 2, 2), instr(2, impl.OpXor, 2, 0, 1)},
		Inits: []string{"01", "10", "00"}, Ticks: []int{0, 0, 1}, Nexts: []int{1, 0, 0}, Outs: []int{2, 0},
	}
	// the second instruction reads what the first has put over what was there
	again := impl.Code{
		Slots: 1, Instrs: []impl.Instr{numberInstr(0, impl.OpIn, 0, 3), instr(0, impl.OpNot, 3, 0), instr(0, impl.OpJoin, 6, 0, 0), instr(0, impl.OpAll, 1, 0), instr(0, impl.OpSize, 2, 0)},
		Ins: []int{3}, Outs: []int{0, 0},
	}
	pass := impl.Code{Slots: 3, Instrs: []impl.Instr{numberInstr(2, impl.OpIn, 0, 3), instr(0, impl.OpOdd, 1, 2)}, Ins: []int{3}, Outs: []int{2}, Checks: []int{0}}
	for what, c := range map[string]struct {
		c           impl.Code
		steps, want string
	}{
		"no clock ticks":                      {theCode(), "0101 0/--; 0011 1/--", "0000 0101/0/0000 1; 0000 0001/0/0000 1"},
		"outs and checks behind the tick":     {theCode(), "0101 0/t-; 0110 1/t-; 0111 1/t-", "0101 0101/1/0101 1; 0110 0111/1/0110 1; 0111 1000/1/0111 1"},
		"each clock has its registers":        {theCode(), "0101 0/-t; 0101 0/tt; 0000 1/-t", "0000 0101/0/0000 0; 0101 0101/1/0101 1; 0101 0110/0/0101 0"},
		"registers take their Nexts at once":  {swap, "/t-; /t-; /tt; /-t", "11 10//10 01 00; 11 01//01 10 00; 11 10//10 01 01; 11 10//10 01 10"},
		"a clock by itself":                   {swap, "/-t; /t-", "11 01//01 10 01; 11 10//10 01 01"},
		"nothing but inputs":                  {pass, "010/; 011/; 111/", "010/1/; 011/0/; 111/1/"},
		"a slot that is put into often":       {again, "010/; 000/", "00 00//; 01 01//"},
		"it wraps round":                      {theCode(), "1111 0/t-; 0000 1/t-", "1111 1111/1/1111 1; 0000 0001/1/0000 1"},
		"the last inputs are those of a step": {theCode(), "0001 1/t-; 0000 0/--", "0001 0010/1/0001 1; 0001 0000/0/0001 1"},
	} {
		rows, code := holdRunCode(t, c.c, stepsOf(c.steps))
		if code != impl.OK || rowsWritten(rows) != c.want {
			t.Errorf("%s: code %d, %s, want %s", what, code, rowsWritten(rows), c.want)
		}
	}
}

func TestRunCodeWrongSteps(t *testing.T) {
	wrong := theCode()
	wrong.Inits[0] = "x"
	for what, c := range map[string]struct {
		c     impl.Code
		steps []impl.Step
		want  int
	}{
		"right":                   {theCode(), stepsOf(rightSteps), impl.OK},
		"no steps":                {theCode(), nil, impl.OK},
		"nothing at all":          {impl.Code{}, nil, impl.OK},
		"steps of nothing":        {impl.Code{}, make([]impl.Step, 3), impl.OK},
		"no code":                 {wrong, stepsOf(rightSteps), impl.ErrBad},
		"as many steps as can be": {impl.Code{}, make([]impl.Step, impl.MaxList), impl.OK},
		"a step more":             {impl.Code{}, make([]impl.Step, impl.MaxList+1), impl.ErrLong},
		"a step more of no code":  {wrong, make([]impl.Step, impl.MaxList+1), impl.ErrLong},
		"wrong steps, one more":   {theCode(), make([]impl.Step, impl.MaxList+1), impl.ErrLong},
	} {
		rows, code := holdRunCode(t, c.c, c.steps)
		if code != c.want || code != impl.OK && rows != nil || code == impl.OK && len(rows) != len(c.steps) {
			t.Errorf("%s: code %d, %d rows", what, code, len(rows))
		}
	}
	for what, steps := range wrongSteps() {
		if rows, code := holdRunCode(t, theCode(), steps); code != impl.ErrBad || rows != nil {
			t.Errorf("%s: code %d, %d rows", what, code, len(rows))
		}
	}
}
