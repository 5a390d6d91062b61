package tests

import (
	"fmt"
	"slices"
	"testing"

	"loop.example/g00031/impl"
)

// bitsFromLowest are the bits of vectors one behind the other, each from bit 0 on.
func bitsFromLowest(list []string) []string {
	var all []string
	for _, bits := range list {
		for k := range bits {
			all = append(all, bits[len(bits)-1-k:][:1])
		}
	}
	return all
}

// stepsBlasted are the steps of a netlist for its graph.
func stepsBlasted(steps []impl.Step) []impl.Step {
	var all []impl.Step
	for _, s := range steps {
		all = append(all, impl.Step{Ins: bitsFromLowest(s.Ins), Ticks: s.Ticks})
	}
	return all
}

// rowsBlasted are a netlist's rows bit by bit.
func rowsBlasted(rows []impl.Row) []impl.Row {
	var all []impl.Row
	for _, row := range rows {
		all = append(all, impl.Row{Outs: bitsFromLowest(row.Outs), Checks: bitsFromLowest(row.Checks), Regs: bitsFromLowest(row.Regs)})
	}
	return all
}

// holdBlasted: promise 12 of one netlist: its graph tells its bits, and comes back from its bytes.
func holdBlasted(t *testing.T, n impl.Net, steps []impl.Step) impl.Aig {
	t.Helper()
	a, code := impl.Blast(n)
	if code != impl.OK {
		t.Fatalf("%s: code %d", netWritten(n), code)
	}
	rows, code := impl.NetRun(n, steps)
	told, aigCode := impl.AigRun(a, stepsBlasted(steps))
	if code != impl.OK || aigCode != impl.OK || rowsShown(rowsBlasted(rows)) != rowsShown(told) {
		t.Fatalf("%s\n%s\n%v: codes %d, %d\n%s, but the graph tells\n%s", netWritten(n), aigWritten(a), steps, code, aigCode, rowsShown(rowsBlasted(rows)), rowsShown(told))
	}
	b, code := impl.AigBytes(a)
	if code == impl.ErrLong {
		return a
	}
	if back, readCode := impl.ReadAig(b); code != impl.OK || readCode != impl.OK || aigShown(back) != aigShown(a) {
		t.Fatalf("%s\n%q: codes %d, %d, read as\n%s", aigShown(a), b, code, readCode, aigShown(back))
	}
	return a
}

// Promise 12, and each graph as told, of netlists of all kinds of cells.
func TestGraphsAsNets(t *testing.T) {
	counts := map[string]int{}
	for seed := range uint64(1500) {
		w := wirerOf(seed + 1)
		n := w.net(1 + w.below(40))
		_, code := holdBlast(t, n)
		counts[fmt.Sprint("code ", code)]++
		if code != impl.OK {
			continue
		}
		a := holdBlasted(t, n, stepsFor(&w.choices, n, 1+w.below(5)))
		for _, c := range n.Cells {
			counts[fmt.Sprint("op ", c.Op, c.Signed)]++
		}
		counts["many ands"] += numberIf(len(a.Ands) > 40)
		counts["some ands"] += numberIf(len(a.Ands) > 0 && len(a.Ands) <= 40)
		counts["no ands"] += numberIf(len(a.Ands) == 0)
		counts["latches"] += numberIf(len(a.Latches) > 0)
		counts["two clocks"] += numberIf(len(a.Clocks) == 2)
	}
	wantsOften(t, counts, 20, append(allCellOps(), "code 0", "many ands", "some ands", "no ands", "latches", "two clocks"))
}

// Promise 12 of netlists with constants, operands that are the same, and cells that others take back.
func TestGraphsOfKnots(t *testing.T) {
	counts := map[string]int{}
	for seed := range uint64(1500) {
		w := wirerOf(seed + 600)
		n := w.knotted(1 + w.below(30))
		_, code := holdBlast(t, n)
		counts[fmt.Sprint("code ", code)]++
		if code == impl.OK {
			holdBlasted(t, n, stepsFor(&w.choices, n, 1+w.below(5)))
		}
	}
	wantsOften(t, counts, 1000, []string{"code 0"})
}

// Promise 12 of netlists that were designs, and of these optimised.
func TestGraphsAsDesigns(t *testing.T) {
	done := 0
	for seed := range uint64(150) {
		s := smithOf(seed+800, 0)
		n, _ := impl.Lower(s.design())
		steps := s.steps(n, 1+s.below(6))
		small, _ := impl.Optimise(n)
		for _, net := range []impl.Net{n, small} {
			if _, code := holdBlast(t, net); code == impl.OK {
				holdBlasted(t, net, steps)
				done++
			}
		}
	}
	if done < 200 {
		t.Errorf("only %d", done)
	}
	n := netOf(t, countDown)
	holdBlast(t, n)
	a := holdBlasted(t, n, slices.Repeat(stepsOf("0011/t"), 18))
	rows, _ := impl.AigRun(a, slices.Repeat(stepsBlasted(stepsOf("0011/t")), 18))
	if len(a.Ins) != 4 || a.Ins[3] != "i[3]" || fmt.Sprint(rows[2].Outs[:4]) != "[1 1 0 0]" || fmt.Sprint(rows[17].Outs[:4]) != "[0 0 0 0]" {
		t.Errorf("%v, %v", rows[2], rows[17])
	}
}

// everyCell are cells of all operations of operands of these widths, which stand ahead of them as cells 0, 1 and 2.
func everyCell(first, second, third int) []impl.Cell {
	cells := []impl.Cell{
		cellOf(impl.OpNot, first, 0), cellOf(impl.OpNeg, first, 0),
		cellOf(impl.OpShl, first, 0, 1), cellOf(impl.OpShr, first, 0, 1), cellOf(impl.OpSar, first, 0, 1),
		cellOf(impl.OpBoth, 1, 0, 1), cellOf(impl.OpEither, 1, 0, 1), cellOf(impl.OpJoin, first+second, 0, 1),
	}
	for op := impl.OpAll; op <= impl.OpNone; op++ {
		cells = append(cells, cellOf(op, 1, 0))
	}
	if first == second {
		for op := impl.OpAnd; op <= impl.OpLe; op++ {
			switch op {
			case impl.OpDiv, impl.OpRem, impl.OpSame:
			case impl.OpLt, impl.OpLe:
				signed := cellOf(op, 1, 0, 1)
				signed.Signed = true
				cells = append(cells, cellOf(op, 1, 0, 1), signed)
			case impl.OpEq, impl.OpNe:
				cells = append(cells, cellOf(op, 1, 0, 1))
			default:
				cells = append(cells, cellOf(op, first, 0, 1))
			}
		}
	}
	if second == third {
		cells = append(cells, cellOf(impl.OpChoose, second, 0, 1, 2))
	}
	for width := 1; width <= 5; width++ {
		if width == first {
			continue
		}
		size := cellOf(impl.OpSize, width, 0)
		cells = append(cells, size)
		if size.Signed = width > first; size.Signed {
			cells = append(cells, size)
		}
		for low := 0; low+width <= first; low++ {
			part := cellOf(impl.OpPart, width, 0)
			part.N = low
			cells = append(cells, part)
		}
	}
	return cells
}

// Promise 12 of each operation by itself, with all that can come in.
func TestGraphsOfEachOperation(t *testing.T) {
	for _, widths := range [][]int{{1, 1, 1}, {2, 2, 2}, {3, 3, 1}, {1, 3, 3}, {3, 1, 1}, {2, 3, 3}, {4, 2, 2}, {4, 3, 1}} {
		var inputs []int
		for i := range 1 << sumTold(widths) {
			inputs = append(inputs, i)
		}
		for _, c := range everyCell(widths[0], widths[1], widths[2]) {
			n := oneClock(widths, "in0 in1 in2")
			n.Cells = append(n.Cells, c)
			n.Outs = outsRead("y", "3")
			holdBlast(t, n)
			holdBlasted(t, n, stepsTold(n, inputs))
		}
	}
}

// Promise 12 of operations of wide operands.
func TestGraphsOfWideOperations(t *testing.T) {
	for _, widths := range [][]int{{64, 64, 64}, {63, 63, 63}, {64, 7, 7}, {33, 6, 6}, {24, 24, 24}, {5, 64, 64}} {
		for _, c := range everyCell(widths[0], widths[1], widths[2]) {
			if c.Op == impl.OpJoin && c.Width > 64 {
				continue
			}
			n := oneClock(widths, "in0 in1 in2")
			n.Cells = append(n.Cells, c)
			n.Outs = outsRead("y", "3")
			if _, code := holdBlast(t, n); code == impl.ErrMany {
				continue
			}
			var steps []impl.Step
			for i := range 12 {
				number := int(stirred(uint64(7*i + c.Op + 1)))
				step := impl.Step{Ticks: []bool{true}}
				for k, width := range widths {
					bits := impl.BitsOf(number>>(5*k*(i%3)), width)
					if i > 6 && k > 0 {
						// small numbers, by which something is left of what is moved
						bits = impl.BitsOf(i+k, width)
					}
					step.Ins = append(step.Ins, bits)
				}
				steps = append(steps, step)
			}
			steps = append(steps, impl.Step{Ins: []string{steps[0].Ins[0], zeros(widths[1]), zeros(widths[2])}, Ticks: []bool{false}})
			holdBlasted(t, n, steps)
		}
	}
}

// Graphs of all kinds run as told and come back from their bytes; with a byte less, or a byte more, they do not.
func TestGraphsDrawn(t *testing.T) {
	counts := map[string]int{}
	for seed := range uint64(1500) {
		d := draughtsmanOf(seed + 1)
		a := d.any()
		wantsAig(t, aigShown(a), a, true)
		holdAigRun(t, a, d.steps(a, 1+d.below(5)))
		b, _ := holdBytes(t, a)
		holdOneByte(t, d, b)
		counts["latches"] += numberIf(len(a.Latches) > 0)
		counts["clocks"] += numberIf(len(a.Clocks) > 1)
		counts["outs"] += numberIf(len(a.Outs) > 0)
		counts["no outs"] += numberIf(len(a.Outs) == 0)
		counts["no ands"] += numberIf(len(a.Ands) == 0)
		counts["great numbers"] += numberIf(len(a.Ands) > 63)
		for _, and := range a.Ands {
			counts["falling"] += numberIf(and.A > and.B)
			counts["the same"] += numberIf(and.A == and.B)
			counts["opposites"] += numberIf(and.A == and.B^1)
			counts["of false"] += numberIf(and.A < 2)
		}
	}
	wantsOften(t, counts, 10, []string{"latches", "clocks", "outs", "no outs", "no ands", "great numbers", "falling", "the same", "opposites", "of false"})
}

// holdOneByte: without its last byte, with one more behind, and without one of them or with one more anywhere, bytes are what is told.
func holdOneByte(t *testing.T, d *draughtsman, b []byte) {
	t.Helper()
	for what, wrong := range map[string][]byte{"a byte less": b[:len(b)-1], "a 0 more": append(slices.Clone(b), 0), "a byte more": append(slices.Clone(b), byte(d.below(256))), "the first byte less": b[1:]} {
		if a, code := holdRead(t, wrong); what != "the first byte less" && (code != impl.ErrForm || aigShown(a) != aigShown(impl.Aig{})) {
			t.Fatalf("%s: %q: code %d", what, wrong, code)
		}
	}
	at := d.below(len(b))
	holdRead(t, b[:at])
	holdRead(t, slices.Delete(slices.Clone(b), at, at+1))
	holdRead(t, slices.Insert(slices.Clone(b), at, byte(d.below(256))))
}

// Bytes with one of them changed are what is told, and give just these bytes where they are a graph's.
func TestBytesBent(t *testing.T) {
	right, wrong := 0, 0
	for seed := range uint64(1500) {
		d := draughtsmanOf(seed + 5000)
		a := d.aig(d.below(3), d.below(3), d.below(6))
		b, _ := impl.AigBytes(a)
		for range 20 {
			bent := slices.Clone(b)
			at := d.below(len(bent))
			bent[at] += []byte{1, 255, 128, 2, 64}[d.below(5)]
			if bent[at] >= 128 && d.below(2) == 0 {
				// a number that is longer than it need be
				bent = slices.Insert(bent, at+1, 0)
			}
			if _, code := holdRead(t, bent); code == impl.OK {
				right++
			} else {
				wrong++
			}
		}
	}
	if right < 1000 || wrong < 10000 {
		t.Errorf("%d right, %d wrong", right, wrong)
	}
}

// Any bytes are read as told.
func TestBytesOfAnyKind(t *testing.T) {
	right := 0
	for seed := range uint64(20000) {
		d := draughtsmanOf(seed + 9000)
		var b []byte
		for range d.below(16) {
			b = append(b, byte(d.below([]int{2, 3, 5, 256}[seed%4])))
		}
		if _, code := holdRead(t, b); code == impl.OK {
			right++
		}
	}
	if right < 20 {
		t.Errorf("only %d are a graph's", right)
	}
}

// A graph with one piece changed is one where the chapter's rules say so, and runs and is written as told.
func TestBentGraphs(t *testing.T) {
	right, wrong := 0, 0
	for seed := range uint64(4000) {
		d := draughtsmanOf(seed + 20000)
		a := d.aig(d.below(5), d.below(5), d.below(15))
		steps := d.steps(a, 3)
		d.bent(&a)
		ok := aigTold(a)
		wantsAig(t, aigShown(a), a, ok)
		if ok {
			right++
		} else {
			wrong++
		}
		holdAigRun(t, a, steps)
		holdBytes(t, a)
	}
	if right < 600 || wrong < 1000 {
		t.Errorf("%d right, %d wrong", right, wrong)
	}
}

// A netlist with one piece changed is blasted as told, or is none.
func TestBentNetsBlasted(t *testing.T) {
	codes := map[int]int{}
	for seed := range uint64(2500) {
		w := wirerOf(seed + 40000)
		n := w.knotted(1 + w.below(15))
		bentNet(&w.choices, &n)
		_, code := holdBlast(t, n)
		codes[code]++
	}
	if codes[impl.OK] < 200 || codes[impl.ErrBad] < 1000 {
		t.Errorf("codes %v", codes)
	}
}

// Netlists whose names are those of bits of others, now and then, or too long with these.
func TestNamesBlasted(t *testing.T) {
	codes := map[int]int{}
	for seed := range uint64(1500) {
		w := wirerOf(seed + 50000)
		n := w.stated(1 + w.below(5))
		_, texts, _ := netPieces(&n)
		for range 2 + w.below(3) {
			text := texts[w.below(len(texts))]
			if *text == "" || impl.BitsOK(*text) {
				// what a cell or a register has as its bits
				continue
			}
			*text = w.oneOf("a0[0]", "a0[1]", "r0[0]", "y0[1]", "a0[0][1]", *text+"[0]", *text+zeros(max(0, 1000-len(*text))), *text+zeros(max(0, 996-len(*text))))
		}
		_, code := holdBlast(t, n)
		codes[code]++
	}
	if codes[impl.OK] < 200 || codes[impl.ErrLong] < 50 || codes[impl.ErrTwice] < 50 {
		t.Errorf("codes %v", codes)
	}
}

func aigApart(t *testing.T, a impl.Aig, seen map[any]bool) {
	t.Helper()
	listApart(t, a.Ins, seen)
	listApart(t, a.Clocks, seen)
	listApart(t, a.Latches, seen)
	listApart(t, a.Ands, seen)
	listApart(t, a.Outs, seen)
	listApart(t, a.Checks, seen)
}

func rowsApart(t *testing.T, rows []impl.Row, seen map[any]bool) {
	t.Helper()
	listApart(t, rows, seen)
	for _, row := range rows {
		listApart(t, row.Outs, seen)
		listApart(t, row.Checks, seen)
		listApart(t, row.Regs, seen)
	}
}

// Promise 1: no argument is written into, not behind its end either; answers are new memory, and no two lists of one share any.
func TestAigKeepsArguments(t *testing.T) {
	for seed := range uint64(400) {
		d := draughtsmanOf(seed + 60)
		a := roomyAig(d.any())
		steps := roomySteps(d.steps(a, d.below(6)))
		made, _ := impl.AigBytes(a)
		b := roomyList(made, byte(7))
		told := func() string { return wholeAig(a) + wholeSteps(steps) + fmt.Sprint(b[:cap(b)]) }
		before := told()
		seen := map[any]bool{}
		aigApart(t, a, seen)
		listApart(t, b, seen)
		var answers []string
		for range 2 {
			impl.AigOK(a)
			rows, _ := impl.AigRun(a, steps)
			rowsApart(t, rows, seen)
			written, _ := impl.AigBytes(a)
			listApart(t, written, seen)
			back, _ := impl.ReadAig(b)
			aigApart(t, back, seen)
			answers = append(answers, rowsShown(rows)+fmt.Sprint(written)+aigShown(back))
		}
		if told() != before {
			t.Fatalf("%s: the arguments were changed", before)
		}
		if answers[0] != answers[1] {
			t.Fatalf("%s: another answer", before)
		}
		// what was read does not hang on the bytes any more
		back, _ := impl.ReadAig(b)
		kept := aigShown(back)
		clear(b)
		if aigShown(back) != kept {
			t.Fatalf("%s: the graph shares memory with its bytes", before)
		}
	}
}

func TestBlastKeepsArguments(t *testing.T) {
	done := 0
	for seed := range uint64(300) {
		w := wirerOf(seed + 70)
		n := roomyNet(w.knotted(1 + w.below(20)))
		told := wholeNet(n)
		a, code := impl.Blast(n)
		again, _ := impl.Blast(n)
		if wholeNet(n) != told {
			t.Fatalf("%s: the arguments were changed", told)
		}
		if aigShown(a) != aigShown(again) {
			t.Fatalf("%s: another answer", told)
		}
		seen := map[any]bool{}
		netApart(t, n, seen)
		aigApart(t, a, seen)
		aigApart(t, again, seen)
		done += numberIf(code == impl.OK)
	}
	if done < 200 {
		t.Errorf("only %d", done)
	}
}
