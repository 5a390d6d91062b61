package tests

import (
	"fmt"
	"slices"
	"strings"
	"testing"

	"loop.example/g00031/impl"
)

// holdOptimised holds an optimised netlist against what is told of it, and against promise 9. It answers how many rounds it took.
func holdOptimised(t *testing.T, n impl.Net, fired map[string]int) (impl.Net, int) {
	t.Helper()
	got, code := impl.Optimise(n)
	want, wantCode, rounds := optimisedTold(n, fired)
	if code != wantCode || netShown(got) != netShown(want) {
		t.Fatalf("%s\ncode %d, want %d\n%s, want\n%s", netWritten(n), code, wantCode, netWritten(got), netWritten(want))
	}
	if code == impl.OK {
		w := wirerOf(uint64(len(n.Cells) + rounds))
		holdPromise9(t, n, got, rounds, stepsFor(&w.choices, n, 5))
	}
	return got, rounds
}

// outsAndChecks are rows without registers.
func outsAndChecks(rows []impl.Row) string {
	rows = slices.Clone(rows)
	for i := range rows {
		rows[i].Regs = nil
	}
	return rowsShown(rows)
}

func holdPromise9(t *testing.T, n, made impl.Net, rounds int, steps []impl.Step) {
	t.Helper()
	if !impl.NetOK(made) {
		t.Fatalf("%s\nis made no netlist:\n%s", netWritten(n), netShown(made))
	}
	holdSameRows(t, n, made, steps)
	if len(made.Cells) > len(n.Cells) || len(made.Regs) > len(n.Regs) {
		t.Fatalf("%s\nhas more in the end:\n%s", netWritten(n), netWritten(made))
	}
	again, code := impl.Optimise(made)
	if rounds < impl.MaxRounds && (code != impl.OK || netShown(again) != netShown(made)) {
		t.Fatalf("%s\n%s\noptimised again:\n%s", netWritten(n), netWritten(made), netWritten(again))
	}
}

// holdSameRows: both tell the same of outs and checks in every step.
func holdSameRows(t *testing.T, n, made impl.Net, steps []impl.Step) {
	t.Helper()
	rows, code := impl.NetRun(n, steps)
	other, otherCode := impl.NetRun(made, steps)
	if code != impl.OK || otherCode != impl.OK || outsAndChecks(rows) != outsAndChecks(other) {
		t.Fatalf("%s\n%s\ncodes %d, %d\n%s, but\n%s", netWritten(n), netWritten(made), code, otherCode, rowsShown(rows), rowsShown(other))
	}
}

// optCase is a netlist and what is made of it, as netRead reads them.
type optCase struct{ what, text, want string }

func holdOptCases(t *testing.T, cases []optCase) {
	t.Helper()
	for _, c := range cases {
		n := netRead(c.text)
		got, _ := holdOptimised(t, n, map[string]int{})
		want := netRead(c.want)
		if netShown(got) != netShown(want) {
			t.Errorf("%s: %s is %s, want %s", c.what, c.text, netWritten(got), c.want)
		}
	}
}

func TestOptConstants(t *testing.T) {
	if impl.MaxRounds != 60 {
		t.Errorf("%d", impl.MaxRounds)
	}
}

func TestRule1(t *testing.T) {
	cases := []optCase{
		{"no operands", "in0 || 0", "in0 || 0"},
		{"a constant alone", "'0101 || 0", "'0101 || 0"},
		{"one that is not constant", "'0101 in0 add(0,1) || 2", "'0101 in0 add(0,1) || 2"},
		{"of constants that came out", "'0101 not(0) neg(1) any(2) || 3", "'1 || 0"},
		{"a part of a join of constants", "'0101 '1 join(0,1) part3@1(2) || 3", "'101 || 0"},
		{"a join of one", "'0101 join(0) || 1", "'0101 || 0"},
		{"a join of many", "'10 '1 '0 '0110 join(0,1,2,3,0) || 4", "'1010011010 || 0"},
		{"choose", "'010 '1100 '0011 choose(0,1,2) || 3", "'1100 || 0"},
		{"choose, the other", "'000 '1100 '0011 choose(0,1,2) || 3", "'0011 || 0"},
		{"size", "'1010 size6(0) size6s(0) size3(0) || 1 2 3", "'001010 '111010 '010 || 0 1 2"},
		{"signed", "'1010 '0010 lt(0,1) lts(0,1) le(1,0) les(1,0) || 2 3 4 5", "'0 '1 || 0 1 1 0"},
		{"64 bits", "'" + impl.BitsOf(-1, 64) + " '" + impl.BitsOf(2, 64) + " mul(0,1) add(0,1) || 2 3", "'" + impl.BitsOf(-2, 64) + " '" + impl.BitsOf(1, 64) + " || 0 1"},
		{"a test is a constant, too", "'1 in0 in1 choose(0,1,2) || 3", "in0 || 0"},
		{"the constant is the one that stands already", "'0011 '1100 in0 add(2,1) not(0) xor(2,4) || 3 5", "'1100 in0 add(0,1) xor(0,1) || 2 3"},
	}
	for op, c := range map[string][2]string{
		"and": {"'1010 '0011", "0010"}, "or": {"'1010 '0011", "1011"}, "xor": {"'1010 '0011", "1001"}, "add": {"'1010 '0111", "0001"}, "sub": {"'0010 '0101", "1101"}, "mul": {"'0111 '0011", "0101"},
		"eq": {"'0111 '0010", "0"}, "ne": {"'0111 '0010", "1"}, "lt": {"'0010 '1011", "1"}, "le": {"'1011 '0010", "0"}, "lts": {"'0010 '1011", "0"}, "les": {"'1011 '0010", "1"},
		"shl": {"'1010 '10", "1000"}, "shr": {"'1010 '11", "0001"}, "sar": {"'1010 '11", "1111"}, "both": {"'100 '10", "1"}, "either": {"'000 '00", "0"},
	} {
		cases = append(cases, optCase{op, c[0] + " " + op + "(0,1) || 2", "'" + c[1] + " || 0"})
	}
	for op, want := range map[string]string{"not": "1001", "neg": "1010", "all": "0", "any": "1", "odd": "0", "none": "0"} {
		cases = append(cases, optCase{op, "'0110 " + op + "(0) || 1", "'" + want + " || 0"})
	}
	holdOptCases(t, cases)
}

func TestRule2(t *testing.T) {
	const a, zero, one, ones = "in0 || 0", "'0000 || 0", "'0001 || 0", "'1111 || 0"
	kept := func(op string, bits string) string { return "in0 '" + bits + " " + op + "(0,1) || 2" }
	var cases []optCase
	for op, wants := range map[string][4]string{ // with 0, 1, all ones, itself
		"and": {zero, kept("and", "0001"), a, a},
		"or":  {a, kept("or", "0001"), ones, a},
		"xor": {a, kept("xor", "0001"), kept("xor", "1111"), zero},
		"add": {a, kept("add", "0001"), kept("add", "1111"), "in0 add(0,0) || 1"},
		"sub": {a, kept("sub", "0001"), kept("sub", "1111"), zero},
		"mul": {zero, a, kept("mul", "1111"), "in0 mul(0,0) || 1"},
	} {
		for i, bits := range []string{"0000", "0001", "1111"} {
			cases = append(cases, optCase{op + " of " + bits, kept(op, bits), wants[i]})
			other := wants[i]
			if op == "sub" {
				other = "'" + bits + " in0 sub(0,1) || 2"
			}
			cases = append(cases, optCase{op + " of " + bits + " on the left", "in0 '" + bits + " " + op + "(1,0) || 2", other})
		}
		cases = append(cases, optCase{op + " of 0101", kept(op, "0101"), kept(op, "0101")}, optCase{op + " of itself", "in0 " + op + "(0,0) || 1", wants[3]})
		cases = append(cases, optCase{op + " of what is the same", "in0 in0 not(0) not(1) " + op + "(3,2) || 4", netWritten(notted(netRead(wants[3])))})
	}
	holdOptCases(t, append(cases,
		optCase{"one bit that is 1 is all ones", "in2 '1 and(0,1) or(0,1) mul(0,1) add(0,1) || 2 3 4 5", "in2 '1 add(0,1) || 0 1 0 2"},
		optCase{"one bit that is 0", "in2 '0 and(0,1) or(0,1) mul(0,1) xor(0,1) sub(0,1) sub(1,0) || 2 3 4 5 6 7", "'0 in2 sub(0,1) || 0 1 0 1 1 2"},
		optCase{"what is all zero is the same 0", "in0 '0000 mul(0,1) in0 xor(0,3) || 2 4", "'0000 || 0 0"},
		optCase{"all ones of 64 bits", "in0 size64s(0) '" + impl.BitsOf(-1, 64) + " and(1,2) or(1,2) xor(1,2) || 3 4 5", "in0 size64s(0) '" + impl.BitsOf(-1, 64) + " xor(1,2) || 1 2 3"},
	))
}

// notted is a netlist of one out in which not(in0) stands for in0.
func notted(n impl.Net) impl.Net {
	if n.Cells[0].Op != impl.OpIn {
		return n
	}
	cells := []impl.Cell{n.Cells[0], cellOf(impl.OpNot, 4, 0)}
	for _, c := range n.Cells[1:] {
		for i := range c.In {
			c.In[i]++
		}
		cells = append(cells, c)
	}
	n.Cells, n.Outs[0].Cell = cells, n.Outs[0].Cell+1
	return n
}

func TestRule3(t *testing.T) {
	holdOptCases(t, []optCase{
		{"the same", "in0 eq(0,0) le(0,0) les(0,0) ne(0,0) lt(0,0) lts(0,0) || 1 2 3 4 5 6", "'1 '0 || 0 0 0 1 1 1"},
		{"not the same", "in0 in1 eq(0,1) le(0,1) les(0,1) ne(0,1) lt(0,1) lts(0,1) || 2 3 4 5 6 7", "in0 in1 eq(0,1) le(0,1) les(0,1) ne(0,1) lt(0,1) lts(0,1) || 2 3 4 5 6 7"},
		{"the same by a new cell", "in0 not(0) not(1) eq(0,2) || 3", "'1 || 0"},
		{"shifts by 0", "in0 '0 shl(0,1) shr(0,1) sar(0,1) || 2 3 4", "in0 || 0 0 0"},
		{"shifts by 0 of many bits", "in0 '" + zeros(64) + " shl(0,1) shr(0,1) sar(0,1) || 2 3 4", "in0 || 0 0 0"},
		{"shifts by others", "in0 '1 '10000 shl(0,1) shr(0,2) sar(0,1) || 3 4 5", "in0 '1 shl(0,1) '10000 shr(0,3) sar(0,1) || 2 4 5"},
		{"shifts of 0", "'0000 in2 shl(0,1) shr(0,1) sar(0,1) || 2 3 4", "'0000 in2 shl(0,1) shr(0,1) sar(0,1) || 2 3 4"},
		{"shifts by itself", "in0 shl(0,0) shr(0,0) || 1 2", "in0 shl(0,0) shr(0,0) || 1 2"},
		{"both", "in0 in2 '00 '0 both(0,2) both(2,0) both(1,3) || 4 5 6", "'0 || 0 0 0"},
		{"both, with others", "in0 '01 '1 both(0,1) both(0,2) || 3 4", "in0 '01 both(0,1) '1 both(0,3) || 2 4"},
		{"both of itself", "in0 both(0,0) either(0,0) || 1 2", "in0 both(0,0) either(0,0) || 1 2"},
		{"either", "in0 '01 '1 '10 either(0,1) either(1,0) either(0,2) either(3,0) || 4 5 6 7", "'1 || 0 0 0 0"},
		{"either, with 0", "in0 '00 either(0,1) || 2", "in0 '00 either(0,1) || 2"},
		{"both with 0 is one bit", "in0 '0000 both(1,0) join(2,0) || 3", "'0 in0 join(0,1) || 2"},
	})
}

func TestRule4(t *testing.T) {
	holdOptCases(t, []optCase{
		{"not of not", "in0 not(0) not(1) || 2", "in0 || 0"},
		{"neg of neg", "in0 neg(0) neg(1) || 2", "in0 || 0"},
		{"not of neg, neg of not", "in0 neg(0) not(1) not(0) neg(3) || 2 4", "in0 neg(0) not(1) not(0) neg(3) || 2 4"},
		{"thrice", "in0 not(0) not(1) not(2) neg(0) neg(4) neg(5) || 3 6", "in0 not(0) neg(0) || 1 2"},
		{"of one bit", "in2 all(0) any(0) odd(0) || 1 2 3", "in2 || 0 0 0"},
		{"of four bits", "in0 all(0) any(0) odd(0) none(0) || 1 2 3 4", "in0 all(0) any(0) odd(0) none(0) || 1 2 3 4"},
		{"none of one bit", "in2 none(0) || 1", "in2 not(0) || 1"},
		{"none is shaped again: a not of a not", "in2 not(0) none(1) || 2", "in2 || 0"},
		{"none of none", "in0 none(0) none(1) || 2", "in0 none(0) not(1) || 2"},
		{"none of none of one bit", "in2 none(0) none(1) || 2", "in2 || 0"},
		{"none is shaped again: the not that stands already", "in2 not(0) none(0) eq(1,2) || 3", "'1 || 0"},
		{"none is shaped again at once: its cell has the number of what it is", "in2 not(0) in3 none(1) and(3,2) || 4", "in2 in3 and(0,1) || 2"},
		{"any of any", "in0 any(0) any(1) all(2) odd(3) || 4", "in0 any(0) || 1"},
	})
}

func TestRule5(t *testing.T) {
	holdOptCases(t, []optCase{
		{"a test that is 1", "'1 in0 in1 choose(0,1,2) || 3", "in0 || 0"},
		{"a test that is 0", "'0 in0 in1 choose(0,1,2) || 3", "in1 || 0"},
		{"a test that is not 0", "'0100 in0 in1 choose(0,1,2) || 3", "in0 || 0"},
		{"a test that is 0000", "'0000 in0 in1 choose(0,1,2) || 3", "in1 || 0"},
		{"both the same", "in2 in0 choose(0,1,1) || 2", "in0 || 0"},
		{"both the same, of a not", "in2 not(0) in0 choose(1,2,2) || 3", "in0 || 0"},
		{"a not", "in2 not(0) in0 in1 choose(1,2,3) || 4", "in2 in1 in0 choose(0,1,2) || 3"},
		{"a not of four bits", "in1 not(0) in0 in1 choose(1,2,3) || 4", "in1 not(0) in0 choose(1,2,0) || 3"},
		{"a none of four bits", "in0 none(0) in2 in3 choose(1,2,3) || 4", "in0 in3 in2 choose(0,1,2) || 3"},
		{"a none of one bit", "in2 none(0) in0 in1 choose(1,2,3) || 4", "in2 in1 in0 choose(0,1,2) || 3"},
		{"it is shaped again: a not of a none", "in0 none(0) not(1) in2 in3 choose(2,3,4) || 5", "in0 in2 in3 choose(0,1,2) || 3"},
		{"it is shaped again: the choose that stands already", "in2 not(0) in0 in1 choose(1,2,3) choose(0,3,2) || 4 5", "in2 in1 in0 choose(0,1,2) || 3 3"},
		{"a neg, an any", "in2 neg(0) in0 in1 any(2) choose(1,2,3) choose(4,2,3) || 5 6", "in2 neg(0) in0 in1 choose(1,2,3) any(2) choose(5,2,3) || 4 6"},
		{"constants to choose from", "in2 '0011 '0101 choose(0,1,2) || 3", "in2 '0011 '0101 choose(0,1,2) || 3"},
		{"nothing of the truth", "in2 '1 '0 choose(0,1,2) || 3", "in2 '1 '0 choose(0,1,2) || 3"},
	})
}

func TestRule6(t *testing.T) {
	holdOptCases(t, []optCase{
		{"a join of one", "in0 join(0) join(1) || 2", "in0 || 0"},
		{"a join of two", "in0 in1 join(0,1) || 2", "in0 in1 join(0,1) || 2"},
		{"all of it", "in0 part4@0(0) || 1", "in0 || 0"},
		{"a part of it", "in0 part3@1(0) part3@0(0) || 1 2", "in0 part3@1(0) part3@0(0) || 1 2"},
		{"a part of a part", "in0 part3@1(0) part1@2(1) part2@0(1) || 2 3", "in0 part1@3(0) part2@1(0) || 1 2"},
		{"all of a part", "in0 part3@1(0) part3@0(1) || 2", "in0 part3@1(0) || 1"},
		{"a part of a join: the high one", "in0 in1 join(0,1) part2@5(2) || 3", "in0 part2@1(0) || 1"},
		{"a part of a join: the low one", "in0 in1 join(0,1) part2@2(2) || 3", "in1 part2@2(0) || 1"},
		{"a part of a join: all of the high one", "in0 in1 join(0,1) part4@4(2) || 3", "in0 || 0"},
		{"a part of a join: all of the low one", "in0 in1 join(0,1) part4@0(2) || 3", "in1 || 0"},
		{"a part of a join: of both", "in0 in1 join(0,1) part2@3(2) part4@1(2) || 3 4", "in0 in1 join(0,1) part2@3(2) part4@1(2) || 3 4"},
		{"a part of a join of more", "in2 in0 in3 in1 join(0,1,2,3) part1@9(4) part4@5(4) part1@4(4) part3@6(4) part1@0(4) || 5 6 7 8 9", "in2 in0 in3 part3@1(1) in1 part1@0(4) || 0 1 2 3 5"},
		{"a part of a join of one twice", "in0 join(0,0) part3@4(1) part3@1(1) part3@0(1) || 2 3 4", "in0 part3@0(0) part3@1(0) || 1 2 1"},
		{"it is shaped again: a part of a part of a join", "in0 in1 join(0,1) part6@1(2) part2@3(3) || 4", "in0 part2@0(0) || 1"},
		{"it is shaped again: a part of a join of a part", "in0 part3@1(0) in2 join(1,2) part2@2(3) || 4", "in0 part2@2(0) || 1"},
		{"it is shaped again: a part of a join of a join", "in0 in1 join(0,1) in2 join(2,3) part3@6(4) || 5", "in0 part3@1(0) || 1"},
		{"it is shaped again: a constant", "in0 '0110 join(0,1) part3@1(2) || 3", "'011 || 0"},
		{"the part that stands already", "in0 in1 join(0,1) part2@1(0) part2@5(2) eq(3,4) || 5", "'1 || 0"},
		{"a join of constants and others", "'00 in0 '1 join(0,1,2) part2@5(3) part1@0(3) || 4 5", "'00 '1 || 0 1"},
	})
}

func TestRule7(t *testing.T) {
	var cases []optCase
	for _, op := range []string{"and", "or", "xor", "add", "mul", "eq", "ne", "both", "either"} {
		cases = append(cases,
			optCase{op + " exchanged", "in0 in1 " + op + "(1,0) || 2", "in0 in1 " + op + "(0,1) || 2"},
			optCase{op + " in order", "in0 in1 " + op + "(0,1) || 2", "in0 in1 " + op + "(0,1) || 2"},
			optCase{op + " the same then", "in1 in0 " + op + "(1,0) " + op + "(0,1) || 2 3", "in1 in0 " + op + "(0,1) || 2 2"})
	}
	for _, op := range []string{"sub", "lt", "le", "lts", "les", "shl", "shr", "sar", "join"} {
		cases = append(cases, optCase{op + " stays", "in0 in1 " + op + "(1,0) " + op + "(0,1) || 2 3", "in1 in0 " + op + "(0,1) " + op + "(1,0) || 2 3"})
	}
	holdOptCases(t, append(cases,
		optCase{"by the numbers of new cells", "in0 '0011 not(0) in1 not(2) xor(3,4) || 5", "in0 in1 xor(0,1) || 2"},
		optCase{"a constant that came out is put where it comes out", "in0 eq(0,0) in2 xor(2,1) || 3", "'1 in2 xor(0,1) || 2"},
		optCase{"behind what it is xored with", "in0 in2 eq(0,0) xor(1,2) || 3", "in2 '1 xor(0,1) || 2"},
		optCase{"a constant that is found stands where it is", "'1 in2 in0 eq(2,2) xor(1,3) || 4", "'1 in2 xor(0,1) || 2"},
		optCase{"what nothing needs has a number, too", "in0 in1 in0 add(1,2) || 3", "in0 in1 add(0,1) || 2"},
		optCase{"till a round changes no operands", "in0 in1 sub(1,0) sub(0,1) or(2,3) and(4,3) || 0 1 5", "in0 in1 sub(0,1) sub(1,0) or(2,3) and(2,4) || 0 1 5"},
	))
}

func TestRule8(t *testing.T) {
	holdOptCases(t, []optCase{
		{"ins and registers", "in0 in0 reg0 reg0 sub(0,2) sub(1,3) add(0,2) | r=0000<6@0 | 4 5", "in0 reg0 sub(0,1) add(0,1) | r=0000<3@0 | 2 2"},
		{"the same", "in0 in1 sub(0,1) sub(0,1) || 2 3", "in0 in1 sub(0,1) || 2 2"},
		{"the same by what they read", "in0 in0 not(0) not(1) odd(2) odd(3) || 4 5", "in0 not(0) odd(1) || 2 2"},
		{"another order", "in0 in1 sub(0,1) sub(1,0) || 2 3", "in0 in1 sub(0,1) sub(1,0) || 2 3"},
		{"another Op", "in0 all(0) any(0) || 1 2", "in0 all(0) any(0) || 1 2"},
		{"another N", "in0 part1@1(0) part1@2(0) part1@1(0) || 1 2 3", "in0 part1@1(0) part1@2(0) || 1 2 1"},
		{"another width", "in0 part1@1(0) part2@1(0) size5(0) size6(0) || 1 2 3 4", "in0 part1@1(0) part2@1(0) size5(0) size6(0) || 1 2 3 4"},
		{"another sign", "in0 in1 lt(0,1) lts(0,1) size5(0) size5s(0) || 2 3 4 5", "in0 in1 lt(0,1) lts(0,1) size5(0) size5s(0) || 2 3 4 5"},
		{"other bits", "'0 '00 '1 '01 '1 || 0 1 2 3 4", "'0 '00 '1 '01 || 0 1 2 3 2"},
		{"joins of many", "in2 in3 join(0,1,0,1,0) join(0,1,0,1,0) join(0,1,0,0,1) join(1,1,0,1,0) || 2 3 4 5", "in2 in3 join(0,1,0,1,0) join(0,1,0,0,1) join(1,1,0,1,0) || 2 2 3 4"},
	})
}

func TestNeededCells(t *testing.T) {
	holdOptCases(t, []optCase{
		{"nothing", "", ""},
		{"nothing that is needed", "in0 reg0 add(0,1) | r=0000<2@0", ""},
		{"by outs, then checks, then Nexts", "in3 in2 in1 in0 reg0 add(2,4) | r=0000<5@0 | 3 4 | 1 0", "in0 reg0 in2 in3 in1 add(1,4) | r=0000<5@0 | 0 1 | 2 3"},
		{"operands from the left, ahead", "in0 in1 in2 sub(1,0) in3 choose(2,4,4) join(3,2,4) || 6", "in1 in0 sub(0,1) in2 in3 join(2,3,4) || 5"},
		{"by way of Nexts", "reg0 reg1 reg2 in0 reg3 | r=0000<1@0 s=0001<2@1 t=0000<3@0 u=0010<0@0 | 0", "reg0 reg1 reg2 in0 | r=0000<1@0 s=0001<2@1 t=0000<3@0 | 0"},
		{"registers keep their order", "reg3 reg0 in0 reg2 in1 reg1 | r=0000<2@0 s=0001<4@1 t=0100<1@0 u=0010<3@0 | 0", "reg2 in0 reg0 reg1 | r=0000<1@0 t=0100<2@0 u=0010<3@0 | 0"},
		{"one that needs itself alone", "reg0 in0 add(0,1) | r=0000<2@0 | 1", "in0 || 0"},
		{"two that need each other alone", "reg0 reg1 in0 add(0,2) add(1,2) | r=0000<4@0 s=0000<3@0 | 2", "in0 || 0"},
		{"a register of a check", "reg0 not(0) | r=0<1@1 || 0", "reg0 not(0) | r=0<1@1 || 0"},
		{"a register in a join of many", "in2 reg1 join(0,0,0,0,1) not(1) reg0 | r=1010<4@1 s=0<3@1 | 2", "in2 reg0 join(0,0,0,0,1) not(1) | s=0<3@1 | 2"},
		{"what is not needed any more", "reg0 in0 '0000 and(0,2) add(0,1) | r=0000<4@0 | 3", "'0000 || 0"},
	})
}

func TestFixedRegs(t *testing.T) {
	holdOptCases(t, []optCase{
		{"by its Init", "'0101 reg0 | r=0101<0@0 | 1", "'0101 || 0"},
		{"another constant", "'0101 reg0 | r=0100<0@0 | 1", "reg0 '0101 | r=0100<1@0 | 0"},
		{"by its own OpReg", "reg0 in0 add(0,1) | r=0011<0@0 | 2", "'0011 in0 add(0,1) || 2"},
		{"another one's OpReg", "reg0 reg1 in0 | r=0011<1@0 s=0011<2@1 | 0", "reg0 reg1 in0 | r=0011<1@0 s=0011<2@1 | 0"},
		{"by what its Next is shaped to", "reg0 not(0) not(1) | r=0011<2@0 | 1", "'1100 || 0"},
		{"by a constant that comes out", "reg0 in0 '0000 and(1,2) | r=0000<3@0 | 0", "'0000 || 0"},
		{"it keeps what it is", "reg0 in2 in0 choose(1,2,0) '1 choose(4,0,3) | r=0110<5@0 | 3", "in2 in0 '0110 choose(0,1,2) || 3"},
		{"a chain", "reg0 reg1 reg2 '0000 | r=0000<1@0 s=0000<2@1 t=0000<3@0 | 0", "'0000 || 0"},
		{"a chain that ends elsewhere", "reg0 reg1 reg2 '0001 | r=0000<1@0 s=0000<2@1 t=0001<3@0 | 0", "reg0 reg1 '0001 | r=0000<1@0 s=0000<2@1 | 0"},
		{"two that hold each other", "reg0 reg1 | r=0000<1@0 s=0000<0@0 | 0", "reg0 reg1 | r=0000<1@0 s=0000<0@0 | 0"},
		{"fixed in outs, checks, Nexts and operands", "reg0 reg1 in2 and(0,2) or(0,1) | r=1<0@0 s=0<4@0 | 0 3 1 | 0 4", "'1 in2 reg0 | s=0<0@0 | 0 1 2 | 0 0"},
		{"what is the same then", "reg0 '0011 in0 add(2,0) add(2,1) sub(3,4) | r=0011<0@0 | 3 5", "'0011 in0 add(0,1) '0000 || 2 3"},
		{"a constant that stands elsewhere already", "in0 reg0 '0011 sub(0,1) sub(0,2) | r=0011<1@0 | 4 3", "in0 '0011 sub(0,1) || 2 2"},
		{"its clock does not count", "reg0 reg1 sub(0,1) | r=0011<0@0 s=0011<1@1 | 2", "'0000 || 0"},
	})
}

func TestAlikeRegs(t *testing.T) {
	holdOptCases(t, []optCase{
		{"two", "in0 reg0 reg1 sub(1,2) | r=0000<0@0 s=0000<0@0 | 1 2 3", "reg0 '0000 in0 | r=0000<2@0 | 0 0 1"},
		{"another Init", "in0 reg0 reg1 | r=0000<0@0 s=0001<0@0 | 1 2", "reg0 reg1 in0 | r=0000<2@0 s=0001<2@0 | 0 1"},
		{"another clock", "in0 reg0 reg1 | r=0000<0@0 s=0000<0@1 | 1 2", "reg0 reg1 in0 | r=0000<2@0 s=0000<2@1 | 0 1"},
		{"another Next", "in0 in1 reg0 reg1 | r=0000<0@0 s=0000<1@0 | 2 3", "reg0 reg1 in0 in1 | r=0000<2@0 s=0000<3@0 | 0 1"},
		{"by new Nexts", "in0 in1 and(0,1) and(1,0) reg0 reg1 | r=0000<2@0 s=0000<3@0 | 4 5", "reg0 in0 in1 and(1,2) | r=0000<3@0 | 0 0"},
		{"the least is the one that stays", "in0 reg2 reg1 reg0 | r=0000<0@0 s=0000<0@0 t=0000<0@0 | 1 2 3", "reg0 in0 | r=0000<1@0 | 0 0 0"},
		{"the least, though nothing reads it", "in0 reg1 | r=0000<0@0 s=0000<0@0 | 1", "reg0 in0 | r=0000<1@0 | 0"},
		{"the least of several", "in0 in1 reg3 reg2 reg1 | r=0000<1@0 s=0000<0@0 t=0000<1@0 u=0000<0@0 | 2 3 4", "reg1 reg0 in1 in0 | r=0000<2@0 s=0000<3@0 | 0 1 0"},
		{"alike by a register", "in0 reg0 reg1 reg2 reg3 | r=0000<0@0 s=0000<0@0 t=0001<1@0 u=0001<2@0 | 3 4", "reg1 in0 reg0 | r=0000<1@0 t=0001<2@0 | 0 0"},
		{"not by their own OpRegs", "reg0 not(0) reg1 not(2) | r=0<1@0 s=0<3@0 | 0 2", "reg0 reg1 not(0) not(1) | r=0<2@0 s=0<3@0 | 0 1"},
		{"one of them is the other's Next", "reg0 reg1 not(1) | r=0<2@0 s=0<2@0 | 0 1", "reg0 not(0) | r=0<1@0 | 0 0"},
		{"fixed ones are not alike", "reg0 reg1 | r=0000<0@0 s=0000<0@0 | 0 1", "'0000 || 0 0"},
		{"one is fixed by itself, then the other by a constant", "reg1 reg0 | r=0011<0@0 s=0011<0@0 | 0 1", "'0011 || 0 0"},
		{"in outs, checks, Nexts and operands", "in2 reg0 reg1 not(2) reg2 | r=1<0@0 s=1<0@0 t=0<2@0 | 2 3 4 | 2", "reg0 not(0) reg1 in2 | r=1<3@0 t=0<0@0 | 0 1 2 | 0"},
		{"what is the same then", "in0 in1 reg0 reg1 add(1,2) add(1,3) | r=0000<0@0 s=0000<0@0 | 4 5", "in1 reg0 add(0,1) in0 | r=0000<3@0 | 2 2"},
		{"widths", "in0 '0 join(1,0) reg0 reg1 | r=0000<0@0 s=00000<2@0 | 3 4", "reg0 reg1 in0 '0 join(3,2) | r=0000<2@0 s=00000<4@0 | 0 1"},
	})
}

// chainNet has so many registers, each the next one's Next, the first one fixed; the last one's and is told.
func chainNet(count int) impl.Net {
	n := netRead("in2 '0")
	for i := range count {
		n.Cells = append(n.Cells, regCell(i, 1))
		n.Regs = append(n.Regs, impl.NetReg{Name: fmt.Sprint("c", i), Width: 1, Init: "0", Next: 1 + i, Clock: i % 2})
	}
	n.Cells = append(n.Cells, cellOf(impl.OpAnd, 1, 0, 1+count))
	n.Outs = outsRead("y", fmt.Sprint(2+count))
	return n
}

// Each round fixes one register more, and the operands that it exchanges are shaped in the next one.
func TestMaxRounds(t *testing.T) {
	for _, c := range []struct {
		count, rounds int
		want          string
	}{
		{1, 3, "'0 |  | 0 | "},
		{2, 4, "'0 |  | 0 | "},
		{57, 59, "'0 |  | 0 | "},
		{58, 60, "'0 |  | 0 | "},
		{59, 60, "'0 |  | 0 | "},
		{60, 60, "in2 '0 and(0,1) |  | 2 | "},
		{61, 60, "in2 reg0 and(0,1) '0 | c60=0<3@0 | 2 | "},
		{62, 60, "in2 reg1 and(0,1) '0 reg0 | c60=0<3@0 c61=0<4@1 | 2 | "},
	} {
		got, rounds := holdOptimised(t, chainNet(c.count), map[string]int{})
		if rounds != c.rounds || netWritten(got) != c.want {
			t.Errorf("%d: %d rounds, %s, want %s", c.count, rounds, netWritten(got), c.want)
		}
	}
	got, code := impl.Optimise(chainNet(256))
	if code != impl.OK || len(got.Regs) != 196 || got.Regs[0].Name != "c60" {
		t.Errorf("code %d, %d registers", code, len(got.Regs))
	}
	rest, _, rounds := optimisedTold(got, map[string]int{})
	if again, _ := impl.Optimise(got); rounds != 60 || len(again.Regs) != 136 || netShown(again) != netShown(rest) {
		t.Errorf("%d registers", len(again.Regs))
	}
}

// What a rule gives as a shape is shaped in the same round, the last one here: cell 60 is the last register of a chain, which is 0 from then on.
func TestShapedAgain(t *testing.T) {
	for what, c := range map[string]struct {
		cells string // the first of them is cell 62
		out   int
		want  string
	}{
		"a choose by a not":           {"in0 none(62) not(63) choose(60,63,64) in2 in3 choose(65,66,67)", 68, "in0 in2 in3 choose(0,1,2) |  | 3 | "},
		"a choose by a none":          {"in2 none(62) choose(60,62,63) in0 in1 choose(64,65,66)", 67, "in2 in1 in0 choose(0,1,2) |  | 3 | "},
		"a part of a part":            {"in0 in1 join(62,63) part6@1(64) size6(62) choose(60,66,65) part2@3(67)", 68, "in0 part2@0(0) |  | 1 | "},
		"a part of a join":            {"in0 part3@1(62) in2 join(63,64) choose(60,62,65) part2@2(66)", 67, "in0 part2@2(0) |  | 1 | "},
		"a part that is all of it":    {"in0 in1 join(62,63) size8(62) choose(60,65,64) part4@4(66)", 67, "in0 |  | 0 | "},
		"operands that are exchanged": {"in0 in1 mul(63,62) choose(60,62,64) mul(62,63) eq(65,66)", 67, "'1 |  | 0 | "},
	} {
		n := netRead(strings.Replace(netWritten(chainNet(59)), "|", c.cells+" |", 1))
		n.Outs[0].Cell = c.out
		got, rounds := holdOptimised(t, n, map[string]int{})
		if rounds != 60 || netWritten(got) != c.want {
			t.Errorf("%s: %d rounds, %s, want %s", what, rounds, netWritten(got), c.want)
		}
	}
}

// In the last round two registers come to have the OpReg of one of them as Next: that one is fixed, the other one is alike to none that is not.
func TestFixedAreNotAlike(t *testing.T) {
	n := chainNet(59)
	n.Cells = append(n.Cells, regCell(59, 1), regCell(60, 1), inCell(3, 1), cellOf(impl.OpChoose, 1, 60, 0, 62), cellOf(impl.OpChoose, 1, 60, 64, 62))
	n.Regs = append(n.Regs, impl.NetReg{Name: "p", Width: 1, Init: "1", Next: 65}, impl.NetReg{Name: "q", Width: 1, Init: "1", Next: 66})
	n.Outs = outsRead("y", "62 63")
	got, rounds := holdOptimised(t, n, map[string]int{})
	if want := "'1 reg0 | q=1<0@0 | 0 1 | "; rounds != 60 || netWritten(got) != want {
		t.Errorf("%d rounds, %s, want %s", rounds, netWritten(got), want)
	}
}

// Inputs, clocks and names stay, whether they are needed or not.
func TestOptimisedNames(t *testing.T) {
	n := theNet()
	n.Ins = append(n.Ins, impl.NetPort{Name: "unread", Width: 9})
	n.Clocks = append(n.Clocks, "third")
	got, _ := holdOptimised(t, n, map[string]int{})
	if fmt.Sprint(got.Ins, got.Clocks) != fmt.Sprint(n.Ins, n.Clocks) {
		t.Errorf("%v %v", got.Ins, got.Clocks)
	}
	wants(t, "the net by hand", netWritten(got), "reg0 in1 '0001 add(0,2) in0 choose(1,3,4) eq(0,4) | r=0000<5@0 | 0 5 | 6")
	if fmt.Sprint(got.Outs, got.Checks) != "[{y 0} {z 5}] [{c 6}]" {
		t.Errorf("%v %v", got.Outs, got.Checks)
	}
	empty, code := impl.Optimise(impl.Net{})
	if code != impl.OK || netShown(empty) != netShown(impl.Net{}) {
		t.Errorf("code %d, %s", code, netShown(empty))
	}
}
