package tests

import (
	"fmt"
	"strings"
	"testing"

	"loop.example/g00031/impl"
)

func opNames() []string {
	return strings.Fields("- and or xor add sub mul div rem eq ne same lt le shl shr sar both either not neg all any odd none choose join part size bits sig mem pick")
}

// exShown writes an Ex: its operation, its width, an s if it is signed, N where it is no signal, its kids.
func exShown(f impl.Flat, e impl.Ex) string {
	switch e.Op {
	case impl.OpBits:
		if known(e.Bits) {
			return fmt.Sprintf("%d'%v", e.Width, numberOf(e.Bits, false))
		}
		return e.Bits
	case impl.OpSig:
		return f.Signals[e.N].Name
	}
	text := fmt.Sprintf("(%s%d%s", opNames()[e.Op], e.Width, strings.Repeat("s", numberIf(e.Signed)))
	switch e.Op {
	case impl.OpPart:
		text += fmt.Sprintf("@%d", e.N)
	case impl.OpMem, impl.OpPick:
		text += ":" + f.Signals[e.N].Name
	}
	for _, kid := range e.Kids {
		text += " " + exShown(f, kid)
	}
	return text + ")"
}

func stShown(f impl.Flat, s impl.St) string {
	var parts []string
	for _, kid := range s.Kids {
		parts = append(parts, stShown(f, kid))
	}
	switch s.Kind {
	case impl.StBlock:
		return "{" + strings.Join(parts, " ") + "}"
	case impl.StIf:
		return "if " + exShown(f, s.Exs[0]) + " " + strings.Join(parts, " else ")
	case impl.StWait:
		return fmt.Sprintf("wait %d;", s.N)
	case impl.StStop:
		return "stop;"
	case impl.StCheck:
		return "check " + exShown(f, s.Exs[0]) + ";"
	}
	mark := " = "
	if s.Kind == impl.StLater {
		mark = " <= "
	}
	place := fmt.Sprintf("[%d+%d]", s.Low, s.Wide)
	if len(s.Exs) == 2 {
		place = fmt.Sprintf("[%s+%d]", exShown(f, s.Exs[1]), s.Wide)
	}
	return f.Signals[s.N].Name + place + mark + exShown(f, s.Exs[0]) + ";"
}

func procShown(f impl.Flat, p impl.Proc) string {
	head := []string{"", "assign ", "comb ", "on ", "start ", ""}[p.Kind]
	if p.Kind == impl.ProcOn {
		head += f.Signals[p.Clock].Name + " "
	}
	if p.Kind == impl.ProcCheck {
		head += p.Name + ": "
	}
	return head + stShown(f, p.Body)
}

func signalShown(s impl.Signal) string {
	text := []string{"", "in", "out", "wire", "reg", "mem"}[s.Kind] + strings.Repeat(" signed", numberIf(s.Signed)) + " " + s.Name
	if s.Depth != 0 {
		text += fmt.Sprintf("[%d]", s.Depth)
	}
	return text + " " + s.Init
}

func signalsShown(f impl.Flat) string {
	var all []string
	for _, s := range f.Signals {
		all = append(all, signalShown(s))
	}
	return strings.Join(all, ", ")
}

func procsShown(f impl.Flat) string {
	var all []string
	for _, p := range f.Procs {
		all = append(all, procShown(f, p))
	}
	return strings.Join(all, " ")
}

// theScene is the beginning of a module that has something of each kind.
const theScene = `module top ( in [ 8 ] a , in [ 4 ] b , in signed [ 4 ] s , in signed [ 8 ] t , in c , out [ 6 ] y , out signed [ 6 ] z )
wire [ 4 ] w ; reg [ 8 ] r ; reg signed [ 5 ] q ; mem [ 5 ] m [ 6 ] ; mem signed [ 3 ] n [ 4 ] ;
const K = 3 ; const J = - 2 ; enum E0 , E1 ;
func signed [ 6 ] f ( [ 3 ] p , signed [ 5 ] o ) = p + o ;
func g ( [ 6 ] p , [ 3 ] i ) = p [ i ] ;
func [ 2 ] h ( p ) = a + p ;
func signed [ 3 ] part ( signed [ 6 ] p ) = { p [ 2 ] , p [ 4 : 3 ] } ;
func one ( ) = 1'bx ;
`

// flatOf elaborates a text's module top, held against all that is told of it.
func flatOf(t *testing.T, text string) impl.Flat {
	t.Helper()
	flat, code := holdElaborated(t, text, "top", nil)
	if code != impl.OK {
		t.Fatalf("%s: code %d", text, code)
	}
	return flat
}

func wantsEx(t *testing.T, expr, want string) {
	t.Helper()
	f := flatOf(t, theScene+"check it = "+expr+" ; end")
	if got := exShown(f, f.Procs[0].Body.Exs[0]); got != want {
		t.Errorf("%s: %s, want %s", expr, got, want)
	}
}

type exCase struct{ expr, want string }

func holdExs(t *testing.T, cases []exCase) {
	t.Helper()
	for _, c := range cases {
		wantsEx(t, c.expr, c.want)
	}
}

func TestExOfNumbersAndNames(t *testing.T) {
	holdExs(t, []exCase{
		{"5", "32'5"},
		{"4'b1x0z", "1x0z"},
		{"64'hffffffffffffffff", "64'18446744073709551615"},
		{"a", "a"},
		{"s", "s"},
		{"r", "r"},
		{"y", "y"},
		{"K", "32'3"},
		{"J", "32'4294967294"},
		{"E0", "32'0"},
		{"E1", "32'1"},
	})
}

func TestExWidthsAndSigns(t *testing.T) {
	holdExs(t, []exCase{
		{"a + b", "(add8 a (size8 b))"},
		{"b - a", "(sub8 (size8 b) a)"},
		{"s * t", "(mul8 (size8s s) t)"},
		{"s + a", "(add8 (size8 s) a)"},
		{"s & b", "(and4 s b)"},
		{"s | t", "(or8 (size8s s) t)"},
		{"s ^ a", "(xor8 (size8 s) a)"},
		{"s + K", "(add32 (size32s s) 32'3)"},
		{"a + K", "(add32 (size32 a) 32'3)"},
		{"s / t", "(div8s (size8s s) t)"},
		{"s / a", "(div8 (size8 s) a)"},
		{"s % t", "(rem8s (size8s s) t)"},
		{"b % a", "(rem8 (size8 b) a)"},
		{"- s", "(neg4 s)"},
		{"~ a", "(not8 a)"},
		{"- s + t", "(add8 (neg8 (size8s s)) t)"},
		{"~ s + a", "(add8 (not8 (size8 s)) a)"},
		{"( s + s ) * t", "(mul8 (add8 (size8s s) (size8s s)) t)"},
		{"( b + b ) * a", "(mul8 (add8 (size8 b) (size8 b)) a)"},
		{"( s + b ) + t", "(add8 (add8 (size8 s) (size8 b)) t)"},
		{"( s / s ) + t", "(add8 (div8s (size8s s) (size8s s)) t)"},
		{"( s / s ) + a", "(add8 (div8 (size8 s) (size8 s)) a)"},
		{"4'sb1010 + t", "(add8 (size8s 4'10) t)"},
		{"4'b1010 + t", "(add8 (size8 4'10) t)"},
		{"4'sbx + t", "(add8 (size8s xxxx) t)"},
	})
}

func TestExOfShifts(t *testing.T) {
	holdExs(t, []exCase{
		{"a << b", "(shl8 a b)"},
		{"b << a", "(shl4 b a)"},
		{"s >> b", "(shr4 s b)"},
		{"s >>> b", "(sar4 s b)"},
		{"a >>> b", "(shr8 a b)"},
		{"s >>> a", "(sar4 s a)"},
		{"b >>> s", "(shr4 b s)"},
		{"( s >>> b ) + t", "(add8 (sar8 (size8s s) b) t)"},
		{"( s >>> b ) + a", "(add8 (shr8 (size8 s) b) a)"},
		{"( s << s ) + t", "(add8 (shl8 (size8s s) s) t)"},
		{"a << ( b + b )", "(shl8 a (add4 b b))"},
		{"( b << 1 ) + a", "(add8 (shl8 (size8 b) 32'1) a)"},
		{"a >> ( s >>> b )", "(shr8 a (sar4 s b))"},
	})
}

func TestExOfComparisonsAndTruths(t *testing.T) {
	holdExs(t, []exCase{
		{"a == b", "(eq1 a (size8 b))"},
		{"s != t", "(ne1 (size8s s) t)"},
		{"s === a", "(same1 (size8 s) a)"},
		{"s < t", "(lt1s (size8s s) t)"},
		{"s <= a", "(le1 (size8 s) a)"},
		{"s > t", "(lt1s t (size8s s))"},
		{"a >= b", "(le1 (size8 b) a)"},
		{"s >= s", "(le1s s s)"},
		{"( b + b ) == a", "(eq1 (add8 (size8 b) (size8 b)) a)"},
		{"( s < t ) + s", "(add4 (size4 (lt1s (size8s s) t)) s)"},
		{"a && s", "(both1 a s)"},
		{"( b + b ) || a", "(either1 (add4 b b) a)"},
		{"( a && b ) + b", "(add4 (size4 (both1 a b)) b)"},
		{"! a", "(none1 a)"},
		{"& a", "(all1 a)"},
		{"| s", "(any1 s)"},
		{"^ ( b + b )", "(odd1 (add4 b b))"},
		{"! s + t", "(add8 (size8 (none1 s)) t)"},
	})
}

func TestExOfChoicesAndJoins(t *testing.T) {
	holdExs(t, []exCase{
		{"c ? s : t", "(choose8 c (size8s s) t)"},
		{"a ? s : b", "(choose4 a s b)"},
		{"c ? s : a", "(choose8 c (size8 s) a)"},
		{"( c ? s : s ) + t", "(add8 (choose8 c (size8s s) (size8s s)) t)"},
		{"( c ? b : s ) + t", "(add8 (choose8 c (size8 b) (size8 s)) t)"},
		{"( b + b ) ? a : b", "(choose8 (add4 b b) a (size8 b))"},
		{"{ a }", "(join8 a)"},
		{"{ a , s , c }", "(join13 a s c)"},
		{"{ b + b , c }", "(join5 (add4 b b) c)"},
		{"{ s } + t", "(add8 (size8 (join4 s)) t)"},
		{"{ 3 { s } }", "(join12 s s s)"},
		{"{ K { c } } + s", "(add4 (size4 (join3 c c c)) s)"},
		{"{ 1 { b + b } }", "(join4 (add4 b b))"},
		{"signed ( b ) + t", "(add8 (size8s b) t)"},
		{"signed ( b + b ) + t", "(add8 (size8s (add4 b b)) t)"},
		{"unsigned ( s ) + t", "(add8 (size8 s) t)"},
		{"unsigned ( s )", "s"},
		{"signed ( unsigned ( s ) ) + t", "(add8 (size8s s) t)"},
		{"unsigned ( s + s ) * t", "(mul8 (size8 (add4 s s)) t)"},
		{"signed ( a ) / t", "(div8s a t)"},
		{"signed ( s >>> c ) + t", "(add8 (size8s (sar4 s c)) t)"},
		{"unsigned ( s >>> c ) + t", "(add8 (size8 (sar4 s c)) t)"},
	})
}

func TestExOfIndexesAndParts(t *testing.T) {
	holdExs(t, []exCase{
		{"m [ a ]", "(mem5:m a)"},
		{"m [ 0 ]", "(mem5:m 32'0)"},
		{"m [ 3'd5 ]", "(mem5:m 32'5)"},
		{"m [ K ]", "(mem5:m 32'3)"},
		{"m [ b + b ]", "(mem5:m (add4 b b))"},
		{"m [ b + K ]", "(mem5:m (add32 (size32 b) 32'3))"},
		{"n [ c ] + s", "(add4 (size4s (mem3:n c)) s)"},
		{"m [ c ] + s", "(add5 (mem5:m c) (size5 s))"},
		{"a [ b ]", "(pick1:a b)"},
		{"s [ c ] + s", "(add4 (size4 (pick1:s c)) s)"},
		{"a [ 7 ]", "(part1@7 a)"},
		{"a [ 1 ? 2 : 9 / 0 ]", "(part1@2 a)"},
		{"a [ K - 1 ]", "(part1@2 a)"},
		{"c [ 0 ]", "(part1@0 c)"},
		{"c [ c ]", "(pick1:c c)"},
		{"a [ 3'b0x1 + b ]", "(pick1:a (add4 (size4 0x1) b))"},
		{"a [ { 1'b0 , 2'b10 } ]", "(pick1:a (join3 1'0 2'2))"},
		{"a [ & 1'b1 ]", "(pick1:a (all1 1'1))"},
		{"a [ one ( ) ]", "(pick1:a x)"},
		{"a [ m [ 0 ] ]", "(pick1:a (mem5:m 32'0))"},
		{"s [ 3 ] + s", "(add4 (size4 (part1@3 s)) s)"},
		{"a [ 5 : 2 ]", "(part4@2 a)"},
		{"a [ 7 : 0 ]", "(part8@0 a)"},
		{"a [ 4 : 4 ]", "(part1@4 a)"},
		{"s [ 3 : 0 ] + t", "(add8 (size8 (part4@0 s)) t)"},
		{"a [ K + K : K ]", "(part4@3 a)"},
	})
}

func TestExOfCalls(t *testing.T) {
	holdExs(t, []exCase{
		{"f ( a , s )", "(add6 (size6 (size3 a)) (size6 (size5s s)))"},
		{"f ( c , t ) + t", "(add8 (size8s (add6 (size6 (size3 c)) (size6 (size5 t)))) t)"},
		{"f ( 3'd1 , 5'sd2 )", "(add6 (size6 3'1) (size6 5'2))"},
		{"g ( a , b )", "(part1@0 (shr6 (size6 a) (size3 b)))"},
		{"g ( b + b , c )", "(part1@0 (shr6 (add6 (size6 b) (size6 b)) (size3 c)))"},
		{"h ( b )", "(size2 (add8 a (size8 (size1 b))))"},
		{"h ( c ) + s", "(add4 (size4 (size2 (add8 a (size8 c)))) s)"},
		{"part ( t )", "(join3 (part1@2 (size6 t)) (part2@3 (size6 t)))"},
		{"part ( s ) + s", "(add4 (size4s (join3 (part1@2 (size6s s)) (part2@3 (size6s s)))) s)"},
		{"one ( )", "x"},
		{"f ( f ( a , s ) , f ( 1 , 2 ) )", "(add6 (size6 (size3 (add6 (size6 (size3 a)) (size6 (size5s s))))) (size6 (size5 (add6 (size6 (size3 32'1)) (size6 (size5 32'2))))))"},
	})
}

// What a func's names mean is what they mean where it stands.
func TestCallsSeeWhereTheFuncStands(t *testing.T) {
	f := flatOf(t, `module top ( in [ 4 ] a ) for i = 1 .. 2 { func [ 2 ] f ( ) = a [ i ] ; when 1 { const a2 = 3 ; check c = f ( ) ; } }
func d ( p ) = p ; wire p ; assign p = d ( a ) ; end`)
	want := "i1.c: check (size2 (part1@1 a)); i2.c: check (size2 (part1@2 a)); assign p[0+1] = (size1 a);"
	wants(t, "calls", procsShown(f), want)
}

func TestExAsValue(t *testing.T) {
	for _, c := range []exCase{
		{"assign y = a", "y[0+6] = (size6 a);"},
		{"assign y = s", "y[0+6] = (size6s s);"},
		{"assign z = b", "z[0+6] = (size6 b);"},
		{"assign y = s + b", "y[0+6] = (add6 (size6 s) (size6 b));"},
		{"assign y = s + s", "y[0+6] = (add6 (size6s s) (size6s s));"},
		{"assign y = a + b", "y[0+6] = (size6 (add8 a (size8 b)));"},
		{"assign z = t", "z[0+6] = (size6 t);"},
		{"assign y = b + b", "y[0+6] = (add6 (size6 b) (size6 b));"},
		{"assign y = ~ b", "y[0+6] = (not6 (size6 b));"},
		{"assign y = a >> b", "y[0+6] = (size6 (shr8 a b));"},
		{"assign y = s >>> c", "y[0+6] = (sar6 (size6s s) c);"},
		{"assign y = c ? s : s", "y[0+6] = (choose6 c (size6s s) (size6s s));"},
		{"assign y = { b + b }", "y[0+6] = (size6 (join4 (add4 b b)));"},
		{"assign y = a == b", "y[0+6] = (size6 (eq1 a (size8 b)));"},
		{"assign y = 6'd3", "y[0+6] = 6'3;"},
		{"assign y [ 4 : 1 ] = a", "y[1+4] = (size4 a);"},
		{"assign y [ 5 ] = a", "y[5+1] = (size1 a);"},
		{"assign w [ K ] = c", "w[3+1] = c;"},
		{"assign w = m [ 1 ]", "w[0+4] = (size4 (mem5:m 32'1));"},
	} {
		f := flatOf(t, theScene+c.expr+" ; end")
		wants(t, c.expr, procsShown(f), "assign "+c.want)
	}
}

func TestSignals(t *testing.T) {
	f := flatOf(t, `module top # ( W = 3 , V = W + 1 ) ( in a , in signed b , in [ W ] c , out d , out signed [ V ] e )
wire f ; wire signed [ 2 ] g ; reg h ; reg [ 3 ] i = 5 ; reg signed [ 4 ] j = - 3 ; reg [ 64 ] k = - 1 ; reg [ 2 ] l = 7 ;
mem m [ 1 ] ; mem signed [ 3 ] n [ 64 ] ; mem [ W + V ] o [ V ] ; end`)
	wants(t, "signals", signalsShown(f), "in a x, in signed b x, in c xxx, out d z, out signed e zzzz, wire f z, wire signed g zz, reg h x, reg i 101, reg signed j 1101, reg k "+strings.Repeat("1", 64)+", reg l 11, mem m[1] 0, mem signed n[64] 000, mem o[4] 0000000")
	if len(f.Procs) != 0 {
		t.Error(f.Procs)
	}
}

func TestStatements(t *testing.T) {
	for _, c := range []exCase{
		{"comb { }", "comb {}"},
		{"comb { r = a ; q = s ; }", "comb {r[0+8] = a; q[0+5] = (size5s s);}"},
		{"comb { r [ 7 : 4 ] = a ; r [ 3 ] = c ; r [ b ] = a ; }", "comb {r[4+4] = (size4 a); r[3+1] = c; r[b+1] = (size1 a);}"},
		{"comb { m [ b ] = a ; m [ 5 ] = c ; n [ s + s ] = s ; }", "comb {m[b+5] = (size5 a); m[32'5+5] = (size5 c); n[(add4 s s)+3] = (size3 s);}"},
		{"on c { r <= a ; r = b ; r [ b ] <= c ; m [ K ] <= 1'b1 ; r [ 1 : 0 ] <= 2'd2 ; }", "on c {r[0+8] <= a; r[0+8] = (size8 b); r[b+1] <= c; m[32'3+5] <= (size5 1'1); r[0+2] <= 2'2;}"},
		{"start { wait 0 ; r <= a ; r = a ; wait K * 2 ; wait 1000000 ; stop ; }", "start {wait 0; r[0+8] <= a; r[0+8] = a; wait 6; wait 1000000; stop;}"},
		{"comb { if b + b { r = a ; } }", "comb {if (add4 b b) {r[0+8] = a;} else {}}"},
		{"comb { if a { } else { r = a ; } }", "comb {if a {} else {r[0+8] = a;}}"},
		{"comb { if a { } else if b { } else { r = a ; } }", "comb {if a {} else if b {} else {r[0+8] = a;}}"},
		{"comb { if a { } else if b { } }", "comb {if a {} else if b {} else {}}"},
		{"comb { for i = 1 .. 2 { r [ i ] = c ; m [ i ] = i ; } }", "comb {{{r[1+1] = c; m[32'1+5] = (size5 32'1);} {r[2+1] = c; m[32'2+5] = (size5 32'2);}}}"},
		{"comb { for i = 2 .. 1 { nowhere = c ; } }", "comb {{}}"},
		{"comb { for i = 0 .. 1 { for j = i .. 1 { r [ i + j ] = a [ j ] ; } } }", "comb {{{{{r[0+1] = (part1@0 a);} {r[1+1] = (part1@1 a);}}} {{{r[2+1] = (part1@1 a);}}}}}"},
		{"start { for i = 1 .. 2 { wait i ; } }", "start {{{wait 1;} {wait 2;}}}"},
		{"check it = b + s", "it: check (add4 b s);"},
	} {
		items := c.expr
		if strings.HasPrefix(items, "check") {
			items += " ;"
		}
		f := flatOf(t, theScene+items+" end")
		wants(t, c.expr, procsShown(f), c.want)
	}
}

func TestCases(t *testing.T) {
	for _, c := range []exCase{
		{"case a { }", "{}"},
		{"case a { default : { r = a ; } }", "{r[0+8] = a;}"},
		{"case b { 4'd1 : { r = a ; } }", "if (same1 b 4'1) {r[0+8] = a;} else {}"},
		{"case b { a : { } }", "if (same1 (size8 b) a) {} else {}"},
		{"case s { t : { } }", "if (same1 (size8s s) t) {} else {}"},
		{"case s { t : { } b : { } }", "if (same1 (size8 s) t) {} else if (same1 (size8 s) (size8 b)) {} else {}"},
		{"case b + b { a : { r = a ; } c : { r = b ; } default : { r = s ; } }", "if (same1 (add8 (size8 b) (size8 b)) a) {r[0+8] = a;} else if (same1 (add8 (size8 b) (size8 b)) (size8 c)) {r[0+8] = (size8 b);} else {r[0+8] = (size8s s);}"},
		{"case c { 1'b0 , 1'bx , c : { } }", "if (either1 (either1 (same1 c 1'0) (same1 c x)) (same1 c c)) {} else {}"},
		{"case c { 1'b0 , 1'b1 : { } 1'bz : { } default : { } }", "if (either1 (same1 c 1'0) (same1 c 1'1)) {} else if (same1 c z) {} else {}"},
		{"case c { E0 : { } E1 : { } }", "if (same1 (size32 c) 32'0) {} else if (same1 (size32 c) 32'1) {} else {}"},
		{"case s { E0 : { } }", "if (same1 (size32s s) 32'0) {} else {}"},
	} {
		f := flatOf(t, theScene+"comb { "+c.expr+" } end")
		wants(t, c.expr, procsShown(f), "comb {"+c.want+"}")
	}
}

// Names are those of the modules' places.
func TestWholeNames(t *testing.T) {
	f := flatOf(t, `module leaf # ( N = 1 ) ( in [ N ] d , out q ) wire w ; for i = 0 .. N - 1 { wire x ; when i { wire y ; check odd = d [ i ] ; } else { wire z ; } } check c = d ; end
module mid ( in a ) use leaf one ( . d ( a ) ) ; for k = 3 .. 4 { use leaf two # ( N = k - 2 ) ( . d ( a ) ) ; wire v ; } end
module top ( in a ) wire o ; use mid u ( . a ( a ) ) ; for k = 0 .. 0 { for j = 10 .. 11 { wire v ; reg r ; mem m [ 2 ] ; check c = v ; } } end`)
	var names, checks []string
	for _, s := range f.Signals {
		names = append(names, s.Name)
	}
	for _, p := range f.Procs {
		if p.Kind == impl.ProcCheck {
			checks = append(checks, p.Name)
		}
	}
	wants(t, "signals", strings.Join(names, " "), "a o u.a u.one.d u.one.q u.one.w u.one.i0.x u.one.i0.z u.k3.two.d u.k3.two.q u.k3.two.w u.k3.two.i0.x u.k3.two.i0.z u.k3.v u.k4.two.d u.k4.two.q u.k4.two.w u.k4.two.i0.x u.k4.two.i0.z u.k4.two.i1.x u.k4.two.i1.y u.k4.v k0.j10.v k0.j10.r k0.j10.m k0.j11.v k0.j11.r k0.j11.m")
	wants(t, "checks", strings.Join(checks, " "), "u.one.c u.k3.two.c u.k4.two.i1.odd u.k4.two.c k0.j10.c k0.j11.c")
}

func TestUses(t *testing.T) {
	f := flatOf(t, `module leaf # ( N = 2 , M = N ) ( out signed [ N ] q , in [ M ] d , out p ) assign q = d ; end
module top ( in signed [ 3 ] a , out [ 5 ] y , out z )
use leaf u # ( M = 4 ) ( . d ( a + a ) , . q ( y [ 4 : 1 ] ) ) ;
use leaf v ( . p ( y [ 0 ] ) , . d ( 1 ) , . q ( z ) ) ;
use leaf w # ( M = 1 , N = 3 ) ( . d ( z ) ) ; end`)
	wants(t, "signals", signalsShown(f), "in signed a xxx, out y zzzzz, out z z, wire signed u.q zz, wire u.d zzzz, wire u.p z, wire signed v.q zz, wire v.d zz, wire v.p z, wire signed w.q zzz, wire w.d z, wire w.p z")
	wants(t, "procs", procsShown(f), "assign u.q[0+2] = (size2 u.d); assign y[1+4] = (size4s u.q); assign u.d[0+4] = (add4 (size4s a) (size4s a)); "+
		"assign v.q[0+2] = v.d; assign z[0+1] = (size1 v.q); assign v.d[0+2] = (size2 32'1); assign y[0+1] = v.p; "+
		"assign w.q[0+3] = (size3 w.d); assign w.d[0+1] = z;")
}

func TestParams(t *testing.T) {
	n, _, _ := impl.ParseDesign("module top # ( A = 2 , B = A + 1 , C = 1 / 0 ) ( in [ A ] a , in [ B ] b ) reg [ 64 ] c = C ; end")
	f, code := impl.Elaborate(n, "top", []impl.Param{{Name: "C", Value: -5}, {Name: "A", Value: 4}})
	if code != impl.OK {
		t.Fatal(code)
	}
	wants(t, "given", signalsShown(f), "in a xxxx, in b xxxxx, reg c "+impl.BitsOf(-5, 64))
	for _, c := range []struct {
		given []impl.Param
		code  int
	}{
		{nil, impl.ErrRange},
		{[]impl.Param{{Name: "C"}, {Name: "D"}}, impl.ErrName},
		{[]impl.Param{{Name: "C"}, {Name: "C"}}, impl.ErrTwice},
		{[]impl.Param{{Name: "C"}, {Name: "C"}, {Name: "D"}}, impl.ErrTwice},
		{[]impl.Param{{Name: "C"}, {Name: ""}, {Name: "C"}}, impl.ErrName},
		{[]impl.Param{{Name: "a"}}, impl.ErrName},
		{[]impl.Param{{Name: "C"}, {Name: "A", Value: 0}}, impl.ErrWidth},
		{[]impl.Param{{Name: "C"}, {Name: "A", Value: -1 << 63}}, impl.ErrWidth},
		{[]impl.Param{{Name: "C"}, {Name: "A", Value: 64}}, impl.ErrWidth},
		{[]impl.Param{{Name: "C"}, {Name: "A", Value: 64}, {Name: "B", Value: 64}}, impl.OK},
	} {
		if _, code := impl.Elaborate(n, "top", c.given); code != c.code {
			t.Errorf("%v: %d, want %d", c.given, code, c.code)
		}
	}
}
