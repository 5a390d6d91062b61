package tests

import (
	"fmt"
	"strings"
	"testing"

	"loop.example/g00031/impl"
)

// cellTree writes a cell with all that it hangs on, as exShown writes an Ex.
func cellTree(n impl.Net, at int) string {
	c := n.Cells[at]
	switch c.Op {
	case impl.OpBits:
		return fmt.Sprintf("%d'%v", c.Width, numberOf(c.Bits, false))
	case impl.OpIn:
		return n.Ins[c.N].Name
	case impl.OpReg:
		return n.Regs[c.N].Name
	}
	text := fmt.Sprintf("(%s%d%s", opNames()[c.Op], c.Width, strings.Repeat("s", numberIf(c.Signed)))
	if c.Op == impl.OpPart {
		text += fmt.Sprintf("@%d", c.N)
	}
	for _, in := range c.In {
		text += " " + cellTree(n, in)
	}
	return text + ")"
}

// treesShown are the outs, the checks and the Nexts.
func treesShown(n impl.Net) string {
	var all []string
	for _, out := range n.Outs {
		all = append(all, out.Name+" = "+cellTree(n, out.Cell))
	}
	for _, check := range n.Checks {
		all = append(all, check.Name+": "+cellTree(n, check.Cell))
	}
	for _, r := range n.Regs {
		all = append(all, r.Name+" <= "+cellTree(n, r.Next))
	}
	return strings.Join(all, "; ")
}

// cellsShown are the cells by their numbers.
func cellsShown(n impl.Net) string {
	var all []string
	for _, c := range n.Cells {
		name := append(opNames(), "in", "reg")[c.Op]
		text := fmt.Sprintf("%s%d%s", name, c.Width, strings.Repeat("s", numberIf(c.Signed)))
		if c.Op == impl.OpPart || c.Op == impl.OpIn || c.Op == impl.OpReg {
			text += fmt.Sprintf("@%d", c.N)
		}
		all = append(all, text+c.Bits+strings.ReplaceAll(strings.Trim(fmt.Sprint(c.In), "[]"), " ", ","))
	}
	return strings.Join(all, " ")
}

// netOf lowers a text's module top, held against all that is told of it, the event simulator among that.
func netOf(t *testing.T, text string) impl.Net {
	t.Helper()
	f := flatOf(t, text)
	n, code := holdLowered(t, f)
	if code != impl.OK {
		t.Fatalf("%s: code %d", text, code)
	}
	s := smithOf(uint64(len(text)), 0)
	steps := s.steps(n, 30)
	holdNetRun(t, n, steps)
	holdStepped(t, f, n, steps, nil)
	return n
}

const lowerScene = "module top ( in clk , in c , in [ 2 ] i , in [ 4 ] a , in signed [ 4 ] b , out [ 4 ] y ) "

type treeCase struct{ what, items, want string }

func holdTrees(t *testing.T, cases []treeCase) {
	t.Helper()
	for _, c := range cases {
		if got := treesShown(netOf(t, lowerScene+c.items+" end")); got != c.want {
			t.Errorf("%s: %s: %s, want %s", c.what, c.items, got, c.want)
		}
	}
}

func TestLoweredSignals(t *testing.T) {
	holdTrees(t, []treeCase{
		{"an in", "assign y = a ;", "y = a"},
		{"an out that is read", "assign y = a ; check k = y [ 1 ] ;", "y = a; k: (part1@1 a)"},
		{"a state that nothing sets", "reg [ 4 ] s = 11 ; assign y = s ;", "y = 4'11"},
		{"a wire", "wire [ 4 ] w ; assign y = w ^ w ; assign w = a ;", "y = (xor4 a a)"},
		{"wires ahead of what they read", "wire [ 4 ] w ; assign y = w ; wire [ 4 ] v ; assign w = ~ v ; assign v = - a ;", "y = (not4 (neg4 a))"},
		{"a wire of parts", "wire [ 4 ] w ; assign w [ 0 ] = c ; assign w [ 3 : 2 ] = i ; assign w [ 1 ] = 1 ; assign y = w ;", "y = (join4 i (size1 32'1) c)"},
		{"an out of parts", "assign y [ 3 ] = c ; assign y [ 2 : 0 ] = a [ 2 : 0 ] ;", "y = (join4 c (part3@0 a))"},
		{"an out of single bits", "assign y [ 1 ] = a [ 2 ] ; assign y [ 3 ] = a [ 0 ] ; assign y [ 0 ] = a [ 3 ] ; assign y [ 2 ] = c ;", "y = (join4 (part1@0 a) c (part1@2 a) (part1@3 a))"},
		{"a reg of a comb process", "reg [ 4 ] p ; comb { p = a ; } assign y = p ;", "y = a"},
		{"regs of comb processes", "reg [ 4 ] p ; reg [ 4 ] q ; assign y = p ; comb { p = q + 4'd1 ; } comb { q = a ; }", "y = (add4 a 4'1)"},
		{"a register", "reg [ 4 ] r = 5 ; on clk { r <= a ; } assign y = r ;", "y = r; r <= a"},
		{"a register that stays", "reg [ 4 ] r = 5 ; on clk { if c { r <= r ; } } assign y = a ;", "y = a; r <= r"},
		{"registers of one process", "reg [ 4 ] r = 5 ; reg s = 0 ; on clk { s <= c ; r <= { r [ 2 : 0 ] , s } ; } assign y = r ;", "y = r; r <= (join4 (part3@0 r) s); s <= c"},
		{"checks", "check k = c ; assign y = a ; check l = a ; check m = a == b ; check n = i [ c ] ;", "y = a; k: c; l: (any1 a); m: (eq1 a b); n: (part1@0 (shr2 i c))"},
	})
}

func TestLoweredExs(t *testing.T) {
	holdTrees(t, []treeCase{
		{"operations", "assign y = ( a & b | a ^ b ) + ( a - b ) * - a ;", "y = (add4 (or4 (and4 a b) (xor4 a b)) (mul4 (sub4 a b) (neg4 a)))"},
		{"comparisons", "assign y = { a == b , a != b , a < b , b <= b } ;", "y = (join4 (eq1 a b) (ne1 a b) (lt1 a b) (le1s b b))"},
		{"the same", "assign y = { a === b , a == b , 2'd0 } ;", "y = (join4 (eq1 a b) (eq1 a b) 2'0)"},
		{"truths", "assign y = { a && c , a || c , ! a , 1'b1 } ;", "y = (join4 (both1 a c) (either1 a c) (none1 a) 1'1)"},
		{"all bits", "assign y = { & a , | a , ^ a , ^ c } ;", "y = (join4 (all1 a) (any1 a) (odd1 a) (odd1 c))"},
		{"shifts", "assign y = a << i | ( b >> c ) | ( b >>> i ) ;", "y = (or4 (or4 (shl4 a i) (shr4 b c)) (shr4 b i))"},
		{"signed ones", "wire signed [ 6 ] w ; assign w = b >>> i ; assign y = w < b ? 1 : w [ 5 : 2 ] ;", "y = (size4 (choose32 (lt1s (sar6 (size6s b) i) (size6s b)) 32'1 (size32 (part4@2 (sar6 (size6s b) i)))))"},
		{"choices and joins", "assign y = i ? { c , a [ 3 : 1 ] } : { 2 { i } } ;", "y = (choose4 i (join4 c (part3@1 a)) (join4 i i))"},
		{"a join of one", "assign y = { a } ;", "y = (join4 a)"},
		{"a bit by an index", "assign y = { a [ i ] , a [ c ] , i [ c ] , 1'b0 } ;", "y = (join4 (part1@0 (shr4 a i)) (part1@0 (shr4 a c)) (part1@0 (shr2 i c)) 1'0)"},
		{"a bit by an index that is a constant", "func f ( [ 4 ] p , [ 2 ] j ) = p [ j ] ; assign y = f ( a , 2 ) ;", "y = (size4 (part1@0 (shr4 a (size2 32'2))))"},
		{"a case's OpSame", "reg [ 4 ] p ; comb { p = 0 ; case i { 0 , 3 : { p = a ; } 1 : { p = b ; } } } assign y = p ;",
			"y = (choose4 (either1 (eq1 (size32 i) 32'0) (eq1 (size32 i) 32'3)) a (choose4 (eq1 (size32 i) 32'1) b (size4 32'0)))"},
	})
	// OpPick and OpMem with an OpBits, which no text gives for a signal that is no memory
	f := impl.Flat{
		Signals: []impl.Signal{
			{Name: "a", Kind: impl.SigIn, Width: 3, Init: "000"}, {Name: "b", Kind: impl.SigIn, Width: 1, Init: "0"},
			{Name: "y", Kind: impl.SigOut, Width: 1, Init: "z"}, {Name: "z", Kind: impl.SigOut, Width: 1, Init: "z"},
		},
		Procs: []impl.Proc{
			{Kind: impl.ProcAssign, Clock: -1, Body: setSt(impl.StSet, 2, 0, impl.Ex{Op: impl.OpPick, Width: 1, N: 0, Kids: []impl.Ex{bitsEx(strings.Repeat("0", 62) + "10")}})},
			{Kind: impl.ProcAssign, Clock: -1, Body: setSt(impl.StSet, 3, 0, impl.Ex{Op: impl.OpPick, Width: 1, N: 1, Kids: []impl.Ex{bitsEx("0")}})},
		},
	}
	n, _ := holdLowered(t, f)
	wants(t, "picks", treesShown(n), "y = (part1@2 a); z = (part1@0 b)")
}

func TestLoweredMemories(t *testing.T) {
	scene := "mem [ 2 ] m [ 4 ] ; assign y = { m [ i ] , m [ 3 ] } ; "
	words := "(choose2 (eq1 i 2'0) m[0] (choose2 (eq1 i 2'1) m[1] (choose2 (eq1 i 2'2) m[2] m[3])))"
	holdTrees(t, []treeCase{
		{"not set", scene, "y = (join4 (choose2 (eq1 i 2'0) 2'0 (choose2 (eq1 i 2'1) 2'0 (choose2 (eq1 i 2'2) 2'0 2'0))) 2'0)"},
		{"a word", scene + "on clk { m [ 2 ] <= i ; }", "y = (join4 " + words + " m[3]); m[0] <= m[0]; m[1] <= m[1]; m[2] <= i; m[3] <= m[3]"},
		{"a word by an index", scene + "on clk { m [ a [ 2 : 1 ] ] <= i ; }", "y = (join4 " + words + " m[3]); m[0] <= (choose2 (eq1 (part2@1 a) 2'0) i m[0]); m[1] <= (choose2 (eq1 (part2@1 a) 2'1) i m[1]); m[2] <= (choose2 (eq1 (part2@1 a) 2'2) i m[2]); m[3] <= (choose2 (eq1 (part2@1 a) 2'3) i m[3])"},
		{"a short index", scene + "on clk { m [ c ] <= m [ c ] ; }", "y = (join4 " + words + " m[3]); m[0] <= (choose2 (eq1 c 1'0) (choose2 (eq1 c 1'0) m[0] m[1]) m[0]); m[1] <= (choose2 (eq1 c 1'1) (choose2 (eq1 c 1'0) m[0] m[1]) m[1]); m[2] <= m[2]; m[3] <= m[3]"},
		{"five words", "mem m [ 5 ] ; assign y = m [ c ] ; on clk { m [ 4 ] <= c ; }", "y = (size4 (choose1 (eq1 c 1'0) m[0] m[1])); m[0] <= m[0]; m[1] <= m[1]; m[2] <= m[2]; m[3] <= m[3]; m[4] <= c"},
		{"one word", "mem [ 4 ] m [ 1 ] ; assign y = m [ 0 ] ; on clk { m [ 0 ] <= a ; }", "y = m[0]; m[0] <= a"},
		{"two words set, one under a test", "mem m [ 2 ] ; assign y = a ; on clk { m [ 1 ] <= 1'b1 ; if c { m [ 0 ] <= m [ 1 ] ; } else { m [ 1 ] <= m [ 0 ] ; } }", "y = a; m[0] <= (choose1 c m[1] m[0]); m[1] <= (choose1 c 1'1 m[0])"},
		{"words set at once", "mem m [ 2 ] ; reg r = 0 ; assign y = r ; on clk { m [ 0 ] = c ; m [ c ] = ~ m [ 0 ] ; r <= m [ 1 ] ; }", "y = (size4 r); m[0] <= (choose1 (eq1 c 1'0) (not1 c) c); m[1] <= (choose1 (eq1 c 1'1) (not1 c) m[1]); r <= (choose1 (eq1 c 1'1) (not1 c) m[1])"},
	})
}

func TestLoweredSets(t *testing.T) {
	scene := "reg [ 4 ] r = 9 ; assign y = r ; "
	holdTrees(t, []treeCase{
		{"high bits", scene + "on clk { r [ 3 : 2 ] <= i ; }", "y = r; r <= (join4 i (part2@0 r))"},
		{"low bits", scene + "on clk { r [ 0 ] <= c ; }", "y = r; r <= (join4 (part3@1 r) c)"},
		{"bits between", scene + "on clk { r [ 2 : 1 ] <= i ; }", "y = r; r <= (join4 (part1@3 r) i (part1@0 r))"},
		{"all bits as a part", scene + "on clk { r [ 3 : 0 ] <= a ; }", "y = r; r <= a"},
		{"bits behind bits", scene + "on clk { r [ 3 ] <= c ; r [ 0 ] <= c ; }", "y = r; r <= (join4 (part3@1 (join4 c (part3@0 r))) c)"},
		{"bits that are set again", scene + "on clk { r [ 3 ] <= c ; r <= a ; }", "y = r; r <= a"},
		{"a bit by an index", scene + "on clk { r [ i ] <= c ; }", "y = r; r <= (or4 (and4 r (not4 (shl4 4'1 i))) (shl4 (size4 c) i))"},
		{"a bit by an index behind another", scene + "on clk { r [ 2 ] <= 0 ; r [ c ] <= & a ; }", "y = r; r <= (or4 (and4 (join4 (part1@3 r) (size1 32'0) (part2@0 r)) (not4 (shl4 4'1 c))) (shl4 (size4 (all1 a)) c))"},
		{"later is not read", scene + "on clk { r <= a ; if r [ 0 ] { r <= r + b ; } }", "y = r; r <= (choose4 (part1@0 r) (add4 r b) a)"},
		{"at once is read", "reg [ 4 ] r = 9 ; reg [ 4 ] s = 0 ; assign y = s ; on clk { r = a ; if r [ 0 ] { r = r + b ; } s <= r ; }", "y = s; r <= (choose4 (part1@0 a) (add4 a b) a); s <= (choose4 (part1@0 a) (add4 a b) a)"},
		{"at once in parts", "reg [ 4 ] r = 9 ; reg [ 4 ] s = 0 ; assign y = s ; on clk { r [ i ] = c ; s <= r ; r [ 1 : 0 ] = s [ 1 : 0 ] ; }", "y = s; r <= (join4 (part2@2 (or4 (and4 r (not4 (shl4 4'1 i))) (shl4 (size4 c) i))) (part2@0 s)); s <= (or4 (and4 r (not4 (shl4 4'1 i))) (shl4 (size4 c) i))"},
	})
	// a bit by an OpBits is that bit
	f := flatOf(t, lowerScene+"reg r = 0 ; reg [ 3 ] s = 0 ; on clk { r <= c ; s [ 1 ] <= c ; } assign y = a ; end")
	f.Procs[0].Body.Kids[0].Exs = append(f.Procs[0].Body.Kids[0].Exs, bitsEx("00000"))
	f.Procs[0].Body.Kids[1].Exs = append(f.Procs[0].Body.Kids[1].Exs, bitsEx("10"))
	f.Procs[0].Body.Kids[1].Low = 0
	n, _ := holdLowered(t, f)
	wants(t, "a bit of an OpBits", treesShown(n), "y = a; r <= c; s <= (join3 c (part2@0 s))")
}

func TestLoweredBranches(t *testing.T) {
	scene := "reg [ 4 ] r = 9 ; reg [ 4 ] s = 0 ; assign y = r ; "
	holdTrees(t, []treeCase{
		{"one branch", scene + "on clk { if c { r <= a ; } }", "y = r; r <= (choose4 c a r)"},
		{"the other one", scene + "on clk { if c { } else { r <= a ; } }", "y = r; r <= (choose4 c r a)"},
		{"both", scene + "on clk { if i { r <= a ; s <= b ; } else { r <= b ; } }", "y = r; r <= (choose4 i a b); s <= (choose4 i b s)"},
		{"both the same", scene + "on clk { if i { r <= a + b ; } else { r <= a + b ; } }", "y = r; r <= (add4 a b)"},
		{"both in other ways the same", scene + "on clk { if i { r <= a ; } else { r <= b ; r <= a ; } }", "y = r; r <= a"},
		{"behind what is", scene + "on clk { r <= a ; if c { r [ 0 ] <= c ; } }", "y = r; r <= (choose4 c (join4 (part3@1 a) c) a)"},
		{"within each other", scene + "on clk { if c { if i { r <= a ; } } else { if a { r <= b ; } r [ 3 ] <= c ; } }", "y = r; r <= (choose4 c (choose4 i a r) (join4 c (part3@0 (choose4 a b r))))"},
		{"a test that is a constant", scene + "on clk { if 0 { r <= a ; } }", "y = r; r <= (choose4 32'0 a r)"},
		{"loops", scene + "on clk { for k = 0 .. 1 { s [ k ] <= a [ k + 1 ] ; } }", "y = 4'9; s <= (join4 (part2@2 (join4 (part3@1 s) (part1@1 a))) (part1@2 a) (part1@0 (join4 (part3@1 s) (part1@1 a))))"},
		{"nothing", scene + "on clk { if i { } else { } } on clk { s <= a ; }", "y = 4'9; s <= a"},
	})
}

func TestLoweredCombs(t *testing.T) {
	scene := "reg [ 4 ] p ; assign y = p ; "
	holdTrees(t, []treeCase{
		{"bits", scene + "comb { p [ 1 : 0 ] = i ; p [ 3 : 2 ] = b [ 1 : 0 ] ; }", "y = (join4 (part2@0 b) (part2@0 (join4 (part2@2 4'0) i)))"},
		{"it reads what it has set", scene + "comb { p = a ; p = p + b ; }", "y = (add4 a b)"},
		{"it reads a bit of it", scene + "comb { p = a ; p [ 0 ] = p [ i ] ; }", "y = (join4 (part3@1 a) (part1@0 (shr4 a i)))"},
		{"a bit by an index", scene + "comb { p = a ; p [ i ] = c ; }", "y = (or4 (and4 a (not4 (shl4 4'1 i))) (shl4 (size4 c) i))"},
		{"both branches", scene + "comb { if c { p = a ; } else { p = b ; } }", "y = (choose4 c a b)"},
		{"bits of both branches", scene + "comb { if c { p [ 3 : 1 ] = 5 ; p [ 0 ] = 1'b1 ; } else { p = b ; } }", "y = (choose4 c (join4 (part3@1 (join4 (size3 32'5) (part1@0 4'0))) 1'1) b)"},
		{"the rest behind the branches", scene + "comb { if c { p [ 3 : 1 ] = a [ 2 : 0 ] ; } else { p = b ; } p [ 0 ] = c ; }", "y = (join4 (part3@1 (choose4 c (join4 (part3@0 a) (part1@0 4'0)) b)) c)"},
		{"two regs", "reg p ; reg [ 2 ] q ; assign y = q ; comb { p = c ; q = { p , ~ p } ; p = 0 ; } check k = p ;", "y = (size4 (join2 c (not1 c))); k: (size1 32'0)"},
		{"a reg that nobody reads", scene + "comb { p = a ; } reg q ; comb { q = c ; }", "y = a"},
		{"no sets", scene + "comb { p = a ; } comb { if c { } }", "y = a"},
	})
}

func TestLoweredClocks(t *testing.T) {
	for _, c := range []struct{ what, text, clocks, ins, regs string }{
		{"none", "module top ( in clk , in a , out y ) assign y = a ; end", "", "clk a", ""},
		{"one", "module top ( in a , in clk , out y ) reg r = 0 ; on clk { r <= a ; } assign y = r ; end", "clk", "a", "r:0"},
		{"one that does nothing", "module top ( in a , in clk , out y ) on clk { } assign y = a ; end", "clk", "a", ""},
		{"by their numbers", "module top ( in d , in c , in b , in a ) reg r = 0 ; reg s = 0 ; reg [ 2 ] t = 0 ; on a { r <= b ; } on c { s <= b ; } on d { t <= { r , s } ; } end", "d c a", "b", "r:2 s:1 t:0"},
		{"over a wire", "module top ( in c , in a ) wire w ; assign w = c ; reg r = 0 ; on w { r <= a ; } end", "c", "a", "r:0"},
		{"over wires", "module top ( in c , in d , in a ) wire w ; wire v ; wire u ; assign u = v ; assign w = c ; assign v = w ; reg r = 0 ; reg s = 0 ; reg t = 0 ; on u { r <= s ; } on c { s <= a ; } on d { t <= s ; } end", "c d", "a", "r:0 s:0 t:1"},
		{"wires that nobody waits for", "module top ( in c , in a ) wire w ; wire v ; assign w = c ; assign v = w ; reg r = 0 ; on c { r <= a ; } end", "c", "a", "r:0"},
		{"wires of an in that is no clock", "module top ( in c , in a , out y ) wire w ; wire v ; assign w = a ; assign v = w ; reg r = 0 ; on c { r <= v ; } assign y = w ; end", "c", "a", "r:0"},
		{"in modules", "module bit ( in k , in d , out q ) reg r = 0 ; on k { r <= d ; } assign q = r ; end module two ( in k , in d , out q ) wire m ; use bit f ( . k ( k ) , . d ( d ) , . q ( m ) ) ; use bit g ( . q ( q ) , . d ( m ) , . k ( k ) ) ; end module top ( in clk , in a , out y ) use two t ( . k ( clk ) , . d ( a ) , . q ( y ) ) ; end", "clk", "a", "t.f.r:0 t.g.r:0"},
	} {
		n := netOf(t, c.text)
		var ins, regs []string
		for _, in := range n.Ins {
			ins = append(ins, in.Name)
		}
		for _, r := range n.Regs {
			regs = append(regs, fmt.Sprint(r.Name, ":", r.Clock))
		}
		got := strings.Join(n.Clocks, " ") + "; " + strings.Join(ins, " ") + "; " + strings.Join(regs, " ")
		wants(t, c.what, got, c.clocks+"; "+c.ins+"; "+c.regs)
	}
}

func TestOrderOfCells(t *testing.T) {
	for _, c := range []struct{ what, text, cells, ends string }{
		{"operands ahead, from the left", "module top ( in a , in b , out [ 2 ] y ) assign y = { b | a , a & b } ; end", "in1@1 in1@0 or10,1 and11,0 join22,3", "y4"},
		{"outs in order", "module top ( in a , in b , out y , out z ) assign z = a ; assign y = ~ b ; end", "in1@1 not10 in1@0", "y1 z2"},
		{"checks behind outs", "module top ( in a , in b , out y ) check k = b ; assign y = a ; check j = ~ a ; end", "in1@0 in1@1 not10", "y0 k1 j2"},
		{"Nexts behind checks", "module top ( in c , in a , out y ) reg r = 0 ; reg s = 0 ; on c { s <= r ; r <= a ; } check k = s ; assign y = ~ s ; end", "reg1@1 not10 in1@0 reg1@0", "y1 k0 r2 s3"},
		{"the same cell once", "module top ( in [ 2 ] a , out [ 2 ] y , out [ 2 ] z ) assign y = a + a ; wire [ 2 ] w ; assign w = a + a ; assign z = w * ( a + a ) ; check k = w == w ; end", "in2@0 add20,0 mul21,1 eq11,1", "y1 z2 k3"},
		{"other fields, other cells", "module top ( in signed [ 2 ] a , out [ 4 ] y , out [ 3 ] z ) wire signed [ 3 ] w ; assign w = a ; assign y = w ; wire [ 2 ] u ; assign u = a ; assign z = u ; check k = a < a ; check l = u < u ; end", "in2@0 size3s0 size4s1 size30 lt1s0,0 lt10,0", "y2 z3 k4 l5"},
		{"bits of other widths", "module top ( out [ 2 ] y , out [ 3 ] z ) assign y = { 1'd1 , 1'd1 } ; assign z = { 1'd1 , 2'd1 } ; end", "bits11 join20,0 bits201 join30,2", "y1 z3"},
		{"long joins", "module top ( in a , in b , out [ 5 ] y , out [ 5 ] z , out [ 4 ] x ) assign y = { a , b , a , b , a } ; assign z = { b , b , a , b , a } ; assign x = { a , b , a , b } ; check k = { a , b , a , b , a } == z ; end", "in1@0 in1@1 join50,1,0,1,0 join51,1,0,1,0 join40,1,0,1 eq12,3", "y2 z3 x4 k5"},
		{"what is not needed is left out", "module top ( in a , in b , in clk , out y ) wire w ; assign w = ~ b ; reg [ 2 ] r = 0 ; on clk { r <= { a , b } ; r <= { a , a } ; } assign y = 1'd0 ; end", "bits10 in1@0 join21,1", "y0 r2"},
		{"nothing", "module top ( in a ) end", "", ""},
	} {
		n := netOf(t, c.text)
		var ends []string
		for _, out := range append(append([]impl.NetOut{}, n.Outs...), n.Checks...) {
			ends = append(ends, fmt.Sprint(out.Name, out.Cell))
		}
		for _, r := range n.Regs {
			ends = append(ends, fmt.Sprint(r.Name, r.Next))
		}
		wants(t, c.what, cellsShown(n), c.cells)
		wants(t, c.what, strings.Join(ends, " "), c.ends)
	}
}

func TestLoweredPorts(t *testing.T) {
	n := netOf(t, "module top ( in [ 3 ] b , in clk , in a , out [ 2 ] y , out z ) reg [ 2 ] r = 2 ; mem [ 3 ] m [ 2 ] ; on clk { r <= { a , a } ; m [ a ] <= b ; } assign z = a ; assign y = r ; check k = b ; end")
	wants(t, "ins", fmt.Sprint(n.Ins), "[{b 3} {a 1}]")
	wants(t, "clocks", fmt.Sprint(n.Clocks), "[clk]")
	wants(t, "outs", fmt.Sprint(n.Outs), "[{y 0} {z 1}]")
	wants(t, "checks", fmt.Sprint(n.Checks), "[{k 3}]")
	wants(t, "regs", fmt.Sprint(n.Regs), "[{r 2 0 4 10} {m[0] 3 0 8 000} {m[1] 3 0 12 000}]")
	wants(t, "cells", cellsShown(n), "reg2@0 in1@1 in3@0 any12 join21,1 bits10 eq11,5 reg3@1 choose36,2,7 bits11 eq11,9 reg3@2 choose310,2,11")
}
