package tests

import (
	"fmt"
	"slices"
	"strings"
	"testing"

	"loop.example/g00031/impl"
)

// holdBlast holds the graph of a netlist against what is told of it.
func holdBlast(t *testing.T, n impl.Net) (impl.Aig, int) {
	t.Helper()
	got, code := impl.Blast(n)
	want, wantCode := blastTold(n)
	if code != wantCode || aigShown(got) != aigShown(want) {
		t.Fatalf("%s\ncode %d, want %d\n%s, want\n%s", netWritten(n), code, wantCode, aigWritten(got), aigWritten(want))
	}
	if code == impl.OK && !impl.AigOK(got) {
		t.Fatalf("%s\nis made no graph:\n%s", netShown(n), aigShown(got))
	}
	return got, code
}

// pinLits are the literals of outs or checks.
func pinLits(pins []impl.Pin) string {
	var lits []string
	for _, p := range pins {
		lits = append(lits, fmt.Sprint(p.Lit))
	}
	return strings.Join(lits, " ")
}

// wantsBlast: the netlist with inputs of these widths has just these ands, and its outs' bits are these literals.
func wantsBlast(t *testing.T, what string, widths []int, text, ands, outs string) {
	t.Helper()
	a, code := holdBlast(t, oneClock(widths, text))
	if code != impl.OK || strings.Join(andsWritten(a), " ") != ands || pinLits(a.Outs) != outs {
		t.Errorf("%s: code %d, %s, outs %s, want %s, outs %s", what, code, strings.Join(andsWritten(a), " "), pinLits(a.Outs), ands, outs)
	}
}

// Each operation of one bit: a is 2, b is 4, the ands are 6, 8, 10, ..
func TestBlastOneBit(t *testing.T) {
	for op, c := range map[string]struct{ ands, out string }{
		"and(0,1)":    {"2,4", "6"},
		"or(0,1)":     {"3,5", "7"},
		"xor(0,1)":    {"2,5 3,4 7,9", "11"},
		"xor(1,0)":    {"3,4 2,5 7,9", "11"},
		"not(0)":      {"", "3"},
		"add(0,1)":    {"2,5 3,4 7,9", "11"},
		"sub(0,1)":    {"2,4 3,5 7,9", "10"},
		"neg(0)":      {"", "2"},
		"mul(0,1)":    {"2,4", "6"},
		"eq(0,1)":     {"2,5 3,4 7,9", "10"},
		"ne(0,1)":     {"2,5 3,4 7,9", "11"},
		"lt(0,1)":     {"2,5 3,4 7,9 4,11", "12"},
		"lts(0,1)":    {"2,5 3,4 7,9 2,11", "12"},
		"le(0,1)":     {"3,4 2,5 7,9 2,11", "13"},
		"les(0,1)":    {"3,4 2,5 7,9 4,11", "13"},
		"any(0)":      {"", "2"},
		"all(0)":      {"", "2"},
		"odd(0)":      {"", "2"},
		"none(0)":     {"", "3"},
		"both(0,1)":   {"2,4", "6"},
		"either(0,1)": {"3,5", "7"},
		"shl(0,1)":    {"2,5", "6"},
		"shr(0,1)":    {"2,5", "6"},
		"sar(0,1)":    {"2,4 2,5 7,9", "11"},
		"join(0)":     {"", "2"},
		"part1@0(1)":  {"", "4"},
		"'1":          {"", "1"},
		"'0":          {"", "0"},
		"in1":         {"", "4"},
	} {
		wantsBlast(t, op, []int{1, 1}, "in0 in1 "+op+" | | 2", c.ands, c.out)
	}
	wantsBlast(t, "choose", []int{1, 1, 1}, "in0 in1 in2 choose(0,1,2) | | 3", "2,4 3,6 9,11", "13")
}

// Each operation of two bits: a is 2 and 4, b is 6 and 8, the ands are 10, 12, 14, ..
func TestBlastTwoBits(t *testing.T) {
	for op, c := range map[string]struct{ ands, outs string }{
		"and(0,1)":    {"2,6 4,8", "10 12"},
		"or(0,1)":     {"3,7 5,9", "11 13"},
		"xor(0,1)":    {"2,7 3,6 11,13 4,9 5,8 17,19", "15 21"},
		"not(0)":      {"", "3 5"},
		"add(0,1)":    {"2,7 3,6 11,13 2,6 4,9 5,8 19,21 17,23 16,22 25,27", "15 29"},
		"sub(0,1)":    {"2,6 3,7 11,13 2,7 14,17 4,8 5,9 21,23 18,25 19,24 27,29", "14 31"},
		"neg(0)":      {"2,5 3,4 11,13", "2 15"},
		"mul(0,1)":    {"2,6 4,6 2,8 12,15 13,14 17,19", "10 21"},
		"eq(0,1)":     {"2,7 3,6 11,13 4,9 5,8 17,19 14,20", "22"},
		"ne(0,1)":     {"2,7 3,6 11,13 4,9 5,8 17,19 14,20", "23"},
		"lt(0,1)":     {"2,7 3,6 11,13 6,15 4,9 5,8 19,21 8,23 16,22 25,27", "29"},
		"lts(0,1)":    {"2,7 3,6 11,13 6,15 4,9 5,8 19,21 4,23 16,22 25,27", "29"},
		"le(0,1)":     {"3,6 2,7 11,13 2,15 5,8 4,9 19,21 4,23 16,22 25,27", "28"},
		"les(0,1)":    {"3,6 2,7 11,13 2,15 5,8 4,9 19,21 8,23 16,22 25,27", "28"},
		"any(0)":      {"3,5", "11"},
		"all(0)":      {"2,4", "10"},
		"odd(0)":      {"2,5 3,4 11,13", "15"},
		"none(0)":     {"3,5", "10"},
		"both(0,1)":   {"3,5 7,9 11,13", "14"},
		"both(1,0)":   {"7,9 3,5 11,13", "14"},
		"either(0,1)": {"3,5 7,9 10,12", "15"},
		"either(1,0)": {"7,9 3,5 10,12", "15"},
		"shl(0,1)":    {"2,7 2,6 4,7 13,15 9,10 9,17", "18 20"},
		"shr(0,1)":    {"4,6 2,7 11,13 4,7 9,15 9,16", "18 20"},
		"sar(0,1)":    {"4,6 2,7 11,13 4,7 11,17 4,8 9,15 21,23 9,19 21,27", "25 29"},
		"join(0,1)":   {"", "6 8 2 4"},
		"part1@1(1)":  {"", "8"},
		"part2@0(1)":  {"", "6 8"},
		"size3(0)":    {"", "2 4 0"},
		"size4s(0)":   {"", "2 4 4 4"},
		"size1(0)":    {"", "2"},
		"'10":         {"", "0 1"},
		"'001":        {"", "1 0 0"},
		"in1":         {"", "6 8"},
	} {
		wantsBlast(t, op, []int{2, 2}, "in0 in1 "+op+" | | 2", c.ands, c.outs)
	}
	wantsBlast(t, "choose", []int{2, 2, 2}, "in0 in1 in2 choose(0,1,2) | | 3", "3,5 6,15 10,14 17,19 8,15 12,14 23,25", "21 27")
	wantsBlast(t, "choose by one bit", []int{1, 2, 2}, "in0 in1 in2 choose(0,2,1) | | 3", "2,8 3,4 13,15 2,10 3,6 19,21", "17 23")
	wantsBlast(t, "any of three", []int{3}, "in0 any(0) | | 1", "3,5 7,8", "11")
	wantsBlast(t, "all of three", []int{3}, "in0 all(0) | | 1", "2,4 6,8", "10")
	wantsBlast(t, "both of unlike widths", []int{2, 1}, "in0 in1 both(0,1) either(1,0) | | 2 3", "3,5 6,9 7,8", "10 13")
	wantsBlast(t, "join of three", []int{2, 1, 3}, "in0 in1 in2 join(2,0,1) | | 3", "", "6 2 4 8 10 12")
	wantsBlast(t, "join of one twice", []int{2}, "in0 join(0,0,0) | | 1", "", "2 4 2 4 2 4")
	wantsBlast(t, "part of a part", []int{8}, "in0 part5@2(0) part2@3(1) | | 1 2", "", "6 8 10 12 14 12 14")
	// a shift up by 2 to the j, from the lowest j on; by 4 nothing is left of three bits, nor by more
	wantsBlast(t, "shift of three by one bit", []int{3, 1}, "in0 in1 shl(0,1) | | 2", "2,9 2,8 4,9 13,15 4,8 6,9 19,21", "10 17 23")
	wantsBlast(t, "shift by a wide number", []int{1, 3}, "in0 in1 shr(0,1) | | 2", "2,5 7,10 9,12", "14")
	wantsBlast(t, "shift of a wide number", []int{3, 2}, "in0 '10 shr(0,1) | | 2", "", "6 0 0")
	wantsBlast(t, "shift with the highest bit", []int{3}, "in0 '1 sar(0,1) '10 sar(0,3) '100 sar(0,5) | | 2 4 6", "", "4 6 6 6 6 6 6 6 6")
	wantsBlast(t, "shift up by a constant", []int{3}, "in0 '1 shl(0,1) '10 shl(0,3) '11 shl(0,5) '0 shl(0,7) | | 2 4 6 8", "", "0 2 4 0 0 2 0 0 0 2 4 6")
}

// What and, or, xor and mux are of constants, of opposites and of the same; a is 2, b is 4, c is 6, the ands are 8, 10, 12, ..
func TestBlastOfConstants(t *testing.T) {
	for what, c := range map[string]struct{ cells, outs, ands, lits string }{
		"and of 0":                     {"'0 and(0,3) and(3,0)", "4 5", "", "0 0"},
		"and of 1":                     {"'1 and(0,3) and(3,0) and(3,3)", "4 5 6", "", "2 2 1"},
		"and of the same":              {"and(0,0)", "3", "", "2"},
		"and of opposites":             {"not(0) and(0,3) and(3,0)", "4 5", "", "0 0"},
		"and of 0 and 1":               {"'0 '1 and(3,4) and(4,3) and(3,3)", "5 6 7", "", "0 0 0"},
		"the lesser one as A":          {"and(1,0)", "3", "2,4", "8"},
		"the one that is there":        {"and(0,1) and(1,0) and(0,1)", "3 4 5", "2,4", "8 8 8"},
		"a new one behind":             {"and(2,1) and(1,0)", "3 4", "4,6 2,4", "8 10"},
		"of opposites, another one":    {"not(0) and(3,1) and(0,1)", "4 5", "3,4 2,4", "8 10"},
		"or of 0":                      {"'0 or(0,3) or(3,0) or(3,3)", "4 5 6", "", "2 2 0"},
		"or of 1":                      {"'1 or(0,3) or(3,0)", "4 5", "", "1 1"},
		"or of the same":               {"or(0,0)", "3", "", "2"},
		"or of opposites":              {"not(0) or(0,3)", "4", "", "1"},
		"or there already as and":      {"not(0) not(1) and(3,4) or(0,1) or(1,0)", "5 6 7", "3,5", "8 9 9"},
		"xor of 0":                     {"'0 xor(0,3) xor(3,0)", "4 5", "", "2 2"},
		"xor of 1":                     {"'1 xor(0,3) xor(3,0)", "4 5", "", "3 3"},
		"xor of constants":             {"'0 '1 xor(3,4) xor(4,4) xor(3,3)", "5 6 7", "", "1 0 0"},
		"xor of the same":              {"xor(0,0)", "3", "", "0"},
		"xor of opposites":             {"not(0) xor(0,3)", "4", "", "1"},
		"xor there already":            {"xor(0,1) xor(1,0)", "3 4", "2,5 3,4 9,11", "13 13"},
		"xor of an opposite, new ands": {"not(1) xor(0,1) xor(0,3)", "4 5", "2,5 3,4 9,11 2,4 3,5 15,17", "13 19"},
		"mux by 1":                     {"'1 choose(3,0,1)", "4", "", "2"},
		"mux by 0":                     {"'0 choose(3,0,1)", "4", "", "4"},
		"mux of 1 and 0":               {"'1 '0 choose(0,3,4)", "5", "", "2"},
		"mux of 0 and 1":               {"'1 '0 choose(0,4,3)", "5", "", "3"},
		"mux of 0":                     {"'0 choose(0,3,1)", "4", "3,4", "8"},
		"mux, else 0":                  {"'0 choose(0,1,3)", "4", "2,4", "8"},
		"mux of 1":                     {"'1 choose(0,3,1)", "4", "3,4 3,9", "11"},
		"mux, else 1":                  {"'1 choose(0,1,3)", "4", "2,4 2,9", "11"},
		"mux of the same":              {"choose(0,1,1)", "3", "2,4 3,4 9,11", "13"},
		"mux of opposites":             {"not(1) choose(0,3,1)", "4", "2,5 3,4 9,11", "13"},
		"mux of its test":              {"choose(0,0,1)", "3", "3,4 3,9", "11"},
		"mux, else its test":           {"choose(0,1,0)", "3", "2,4", "8"},
		"mux by an opposite":           {"not(0) choose(3,1,2)", "4", "3,4 2,6 9,11", "13"},
		"mux all there already":        {"choose(0,1,2) choose(0,1,2)", "3 4", "2,4 3,6 9,11", "13 13"},
		"eq of the same":               {"eq(0,0) ne(0,0) lt(0,0) le(0,0)", "3 4 5 6", "", "1 0 0 1"},
		"lt of constants":              {"'0 '1 lt(3,4) lts(3,4) le(4,3) les(4,3)", "5 6 7 8", "", "1 0 0 1"},
		"lt of 0 and 1":                {"'0 '1 lt(0,3) lt(3,0) lt(0,4) lt(4,0)", "5 6 7 8", "", "0 2 3 0"},
	} {
		wantsBlast(t, what, []int{1, 1, 1}, "in0 in1 in2 "+c.cells+" | | "+c.outs, c.ands, c.lits)
	}
	for what, c := range map[string]struct{ cells, outs, ands, lits string }{
		"add of 0":          {"'00 add(0,2) add(2,0)", "3 4", "", "2 4 2 4"},
		"add of 1":          {"'01 add(0,2)", "3", "3,4 2,5 11,13", "3 15"},
		"sub of 0":          {"'00 sub(0,2)", "3", "", "2 4"},
		"sub of the same":   {"sub(0,0)", "2", "", "0 0"},
		"mul of 0":          {"'00 mul(0,2) mul(2,0)", "3 4", "", "0 0 0 0"},
		"mul of 1":          {"'01 mul(0,2) mul(2,0)", "3 4", "", "2 4 2 4"},
		"mul of 2":          {"'10 mul(0,2) mul(2,0)", "3 4", "", "0 2 0 2"},
		"neg of a constant": {"'01 neg(2) '10 neg(4) '00 neg(6)", "3 5 7", "", "1 1 0 1 0 0"},
		"eq of a constant":  {"'10 eq(0,2)", "3", "3,4", "10"},
		"shift of 0":        {"'00 shl(0,2) sar(0,2)", "3 4", "", "2 4 2 4"},
		"shift of nothing":  {"'00 shl(2,0) shr(2,1)", "3 4", "", "0 0 0 0"},
		"choose by 10":      {"'10 choose(2,0,1)", "3", "", "2 4"},
		"choose by 00":      {"'00 choose(2,0,1)", "3", "", "6 8"},
	} {
		wantsBlast(t, what, []int{2, 2}, "in0 in1 "+c.cells+" | | "+c.outs, c.ands, c.lits)
	}
}

// Carries go on from bit to bit but out of the highest one.
func TestBlastCarries(t *testing.T) {
	// of three bits: 2 4 6 and 8 10 12, the ands from 14 on
	wantsBlast(t, "add of three", []int{3, 3}, "in0 in1 add(0,1) | | 2",
		"2,9 3,8 15,17 2,8 4,11 5,10 23,25 21,27 20,26 29,31 4,10 20,27 35,37 6,13 7,12 41,43 38,45 39,44 47,49", "19 33 51")
	wantsBlast(t, "neg of three", []int{3}, "in0 neg(0) | | 1",
		"2,5 3,4 9,11 3,5 7,15 6,14 17,19", "2 13 21")
	// of b's bit 0 all of a, of bit 1 what is left of it above, of bit 2 one bit alone
	wantsBlast(t, "mul of three", []int{3, 3}, "in0 in1 mul(0,1) | | 2",
		"2,8 4,8 6,8 2,10 4,10 16,21 17,20 25,27 16,20 18,23 19,22 33,35 31,37 30,36 39,41 2,12 43,45 42,44 47,49", "14 29 51")
}

// All cells are done in order, those too that nothing needs; of the ands those that are needed are kept, in their order.
func TestBlastKeeps(t *testing.T) {
	for what, c := range map[string]struct{ text, ands, outs string }{
		"nothing needed":                 {"in0 in1 and(0,1) xor(0,1) | | 0", "", "2"},
		"the first not needed":           {"in0 in1 and(0,1) or(0,1) | | 3", "3,5", "7"},
		"the last not needed":            {"in0 in1 or(0,1) and(0,1) | | 2", "3,5", "7"},
		"one between":                    {"in0 in1 and(0,1) or(0,1) xor(0,1) | | 2 4", "2,4 2,5 3,4 9,11", "6 13"},
		"by way of others":               {"in0 in1 or(0,1) xor(0,1) and(2,3) | | 4", "3,5 2,5 3,4 9,11 7,13", "14"},
		"in their order, not the outs'":  {"in0 in1 and(0,1) or(0,1) | | 3 2", "2,4 3,5", "9 6"},
		"met first where nothing needs":  {"in0 in1 xor(0,1) not(1) and(0,3) or(0,1) | | 5 4", "2,5 3,5", "9 6"},
		"a part of a sum":                {"in0 in1 join(0,1) join(1,0) add(2,3) part1@0(4) | | 5", "3,4 2,5 7,9", "11"},
		"no outs at all":                 {"in0 in1 and(0,1) | |", "", ""},
		"a check needs":                  {"in0 in1 and(0,1) or(0,1) | | 0 | 3", "3,5", "2"},
		"a Next needs":                   {"in0 in1 and(0,1) or(0,1) reg0 | r=0<3@0 | 0", "3,5", "2"},
		"a Next of an unneeded register": {"in0 in1 reg0 xor(2,0) | r=0<3@0 | 0", "3,6 2,7 9,11", "2"},
	} {
		wantsBlast(t, what, []int{1, 1}, c.text, c.ands, c.outs)
	}
}

// Inputs, latches, outs and checks are the bits of what they were, in order and from bit 0 on, with their names.
func TestBlastNames(t *testing.T) {
	for what, c := range map[string]struct {
		widths []int
		text   string
		want   string
	}{
		"nothing":              {nil, "", " | clk |  |  |  | "},
		"inputs":               {[]int{1, 3, 2, 1}, "", "a0 a1[0] a1[1] a1[2] a2[0] a2[1] a3 | clk |  |  |  | "},
		"many bits":            {[]int{11}, "in0 part2@9(0) | | 1", "a0[0] a0[1] a0[2] a0[3] a0[4] a0[5] a0[6] a0[7] a0[8] a0[9] a0[10] | clk |  |  | y0[0]:20 y0[1]:22 | "},
		"outs":                 {[]int{2, 1}, "in0 in1 '1 | | 0 1 0 2", "a0[0] a0[1] a1 | clk |  |  | y0[0]:2 y0[1]:4 y1:6 y2[0]:2 y2[1]:4 y3:1 | "},
		"checks":               {[]int{1, 1}, "in0 in1 '0 | | | 1 0 2", "a0 a1 | clk |  |  |  | k0:4 k1:2 k2:0"},
		"registers":            {[]int{2}, "in0 reg0 reg1 | r=01<0@0 s=1<2@0 | 1 2", "a0[0] a0[1] | clk | r[0]=1<2@0 r[1]=0<4@0 s=1<10@0 |  | y0[0]:6 y0[1]:8 y1:10 | "},
		"registers of one bit": {[]int{1}, "in0 reg0 reg1 | r=0<2@0 s=1<0@0 | 1", "a0 | clk | r=0<6@0 s=1<2@0 |  | y0:4 | "},
		"a register of three":  {nil, "reg0 not(0) | r=110<1@0", " | clk | r[0]=0<3@0 r[1]=1<5@0 r[2]=1<7@0 |  |  | "},
		"registers count up":   {[]int{1}, "in0 reg0 size2(0) add(1,2) | r=10<3@0 | 1", "a0 | clk | r[0]=0<13@0 r[1]=1<21@0 | 3,4 2,5 9,11 2,4 6,15 7,14 17,19 | y0[0]:4 y0[1]:6 | "},
	} {
		a, code := holdBlast(t, oneClock(c.widths, c.text))
		if got := aigWritten(a); code != impl.OK || got != c.want {
			t.Errorf("%s: code %d, %s, want %s", what, code, got, c.want)
		}
	}
	// clocks stay, and latches have theirs
	n := netRead("in2 reg0 reg1 | r=0<0@1 s=01<2@0 | 1")
	a, code := holdBlast(t, n)
	if code != impl.OK || aigWritten(a) != "a[0] a[1] a[2] a[3] b[0] b[1] b[2] b[3] e f | clk tck | r=0<18@1 s[0]=1<24@0 s[1]=0<26@0 |  | y0:22 | " {
		t.Errorf("code %d, %s", code, aigWritten(a))
	}
	if a, code := holdBlast(t, impl.Net{}); code != impl.OK || aigShown(a) != aigShown(impl.Aig{}) {
		t.Errorf("code %d, %s", code, aigShown(a))
	}
	// names are as they are, whatever they have in them
	n = impl.Net{Ins: []impl.NetPort{{Name: "[0]", Width: 2}, {Name: "\xff", Width: 1}, {Name: " ", Width: 2}}}
	if a, code := holdBlast(t, n); code != impl.OK || !slices.Equal(a.Ins, []string{"[0][0]", "[0][1]", "\xff", " [0]", " [1]"}) {
		t.Errorf("code %d, %q", code, a.Ins)
	}
}
