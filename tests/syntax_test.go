package tests

import (
	"fmt"
	"slices"
	"strings"
	"testing"

	"loop.example/g00031/impl"
)

// kindNames are the kinds in the document's order, from 1 on.
func kindNames() []string {
	return strings.Fields("Design Module Params Param Ports In Out Type Wire Reg Mem Const Enum Assign Comb On Start Check Func For When Use Items Conns Conn Block Set Later If Case Arm Default Loop Wait Stop Number Name Index Part Call Join Repeat Signed Unsigned Unary Binary Choose")
}

// shown writes a node in round brackets: its kind, its text, its kids. Names
// and numbers in exprs are their texts alone, operators begin their brackets.
func shown(n impl.Node) string {
	if (n.Kind == impl.NName || n.Kind == impl.NNumber) && len(n.Kids) == 0 && n.Text != "" {
		return n.Text
	}
	head := fmt.Sprint("kind ", n.Kind)
	if n.Kind >= impl.NDesign && n.Kind <= impl.NChoose {
		head = kindNames()[n.Kind-1]
	}
	if n.Kind == impl.NBinary && len(n.Kids) == 2 || n.Kind == impl.NUnary && len(n.Kids) == 1 {
		head = n.Text
	} else if n.Text != "" {
		head += " " + n.Text
	}
	for _, kid := range n.Kids {
		head += " " + shown(kid)
	}
	return "(" + head + ")"
}

func TestSyntaxConstants(t *testing.T) {
	kinds := []int{
		impl.NDesign, impl.NModule, impl.NParams, impl.NParam, impl.NPorts, impl.NIn, impl.NOut, impl.NType, impl.NWire, impl.NReg, impl.NMem, impl.NConst, impl.NEnum, impl.NAssign, impl.NComb, impl.NOn,
		impl.NStart, impl.NCheck, impl.NFunc, impl.NFor, impl.NWhen, impl.NUse, impl.NItems, impl.NConns, impl.NConn, impl.NBlock, impl.NSet, impl.NLater, impl.NIf, impl.NCase, impl.NArm, impl.NDefault,
		impl.NLoop, impl.NWait, impl.NStop, impl.NNumber, impl.NName, impl.NIndex, impl.NPart, impl.NCall, impl.NJoin, impl.NRepeat, impl.NSigned, impl.NUnsigned, impl.NUnary, impl.NBinary, impl.NChoose,
	}
	for i, kind := range kinds {
		if kind != i+1 {
			t.Errorf("kind %s is %d", kindNames()[i], kind)
		}
	}
	if len(kinds) != 47 || impl.MaxNodes != 8192 || impl.MaxDeep != 40 {
		t.Error(len(kinds), impl.MaxNodes, impl.MaxDeep)
	}
}

// wantsShown asks for what a text is parsed to, and that it comes back from
// what is printed of it.
func wantsShown(t *testing.T, text, want string) {
	t.Helper()
	n, code, at := impl.ParseDesign(text)
	if code != impl.OK || at != 0 || shown(n) != want {
		t.Errorf("%.1000q: code %d at %d, %s, not %s", text, code, at, shown(n), want)
		return
	}
	printed, code := impl.PrintDesign(n)
	again, codeAgain, _ := impl.ParseDesign(printed)
	if code != impl.OK || codeAgain != impl.OK || !sameNode(n, again) || !impl.NodeOK(n) {
		t.Errorf("%.1000q: printed as %q, code %d, parsed to %s, code %d", text, printed, code, shown(again), codeAgain)
	}
}

func TestSyntaxModules(t *testing.T) {
	for _, c := range [][2]string{
		{"", "(Design)"},
		{" \n ", "(Design)"},
		{"module m ( ) end", "(Design (Module m (Params) (Ports)))"},
		{"module m()end module m()end", "(Design (Module m (Params) (Ports)) (Module m (Params) (Ports)))"},
		{"module m (in a) end", "(Design (Module m (Params) (Ports (In a (Type)))))"},
		{"module m (out signed a, in [3] b, out signed [W+1] c) end", "(Design (Module m (Params) (Ports (Out a (Type signed)) (In b (Type 3)) (Out c (Type signed (+ W 1))))))"},
		{"module m #(A = 1) () end", "(Design (Module m (Params (Param A 1)) (Ports)))"},
		{"module m #(A = 1, B = A ? 2 : 3) (in b) end", "(Design (Module m (Params (Param A 1) (Param B (Choose A 2 3))) (Ports (In b (Type)))))"},
		{"module m ( ) wire a; wire signed [2] b; end", "(Design (Module m (Params) (Ports) (Wire a (Type)) (Wire b (Type signed 2))))"},
	} {
		wantsShown(t, c[0], c[1])
	}
}

func TestSyntaxItems(t *testing.T) {
	for _, c := range [][2]string{
		{"wire a;", "(Wire a (Type))"},
		{"wire signed a;", "(Wire a (Type signed))"},
		{"wire [8] a;", "(Wire a (Type 8))"},
		{"reg a;", "(Reg a (Type))"},
		{"reg signed [8] a = -1;", "(Reg a (Type signed 8) (- 1))"},
		{"reg a = b;", "(Reg a (Type) b)"},
		{"mem a [4];", "(Mem a (Type) 4)"},
		{"mem signed [8] a [W];", "(Mem a (Type signed 8) W)"},
		{"const A = 1 + 2;", "(Const A (+ 1 2))"},
		{"enum A;", "(Enum A)"},
		{"enum A, B, C;", "(Enum A B C)"},
		{"assign a = b;", "(Assign a b)"},
		{"assign a[1] = b;", "(Assign (Index a 1) b)"},
		{"assign a[2:1] = b;", "(Assign (Part a 2 1) b)"},
		{"comb { }", "(Comb (Block))"},
		{"on clk { }", "(On clk (Block))"},
		{"start { stop; }", "(Start (Block (Stop)))"},
		{"check c = a;", "(Check c a)"},
		{"func f ( ) = 1;", "(Func f (Type) (Ports) 1)"},
		{"func signed [8] f (a, signed b, [4] c, signed [2] d) = a + b;", "(Func f (Type signed 8) (Ports (In a (Type)) (In b (Type signed)) (In c (Type 4)) (In d (Type signed 2))) (+ a b))"},
		{"for i = 0..3 { }", "(For i 0 3 (Items))"},
		{"for i = a + 1 .. b ? 1 : 2 { wire c; comb { } }", "(For i (+ a 1) (Choose b 1 2) (Items (Wire c (Type)) (Comb (Block))))"},
		{"when a { wire b; }", "(When a (Items (Wire b (Type))))"},
		{"when {a} { } else { wire c; wire d; }", "(When (Join a) (Items) (Items (Wire c (Type)) (Wire d (Type))))"},
		{"when a { when b { } else { } }", "(When a (Items (When b (Items) (Items))))"},
		{"use m u ( );", "(Use m u (Params) (Conns))"},
		{"use m u #(W = 2, V = 3) (.a(b), .c(d[1] + 2));", "(Use m u (Params (Param W 2) (Param V 3)) (Conns (Conn a b) (Conn c (+ (Index d 1) 2))))"},
	} {
		wantsShown(t, "module m ( ) "+c[0]+" end", "(Design (Module m (Params) (Ports) "+c[1]+"))")
	}
}

func TestSyntaxStatements(t *testing.T) {
	for _, c := range [][2]string{
		{"a = b;", "(Set a b)"},
		{"a <= b;", "(Later a b)"},
		{"a[1] = b; a[1] <= b;", "(Set (Index a 1) b) (Later (Index a 1) b)"},
		{"a[2:1] = b; a[2:1] <= b;", "(Set (Part a 2 1) b) (Later (Part a 2 1) b)"},
		{"a = b <= c;", "(Set a (<= b c))"},
		{"a <= b <= c;", "(Later a (<= b c))"},
		{"a <= b <= c <= d;", "(Later a (<= (<= b c) d))"},
		{"a <= (b <= c);", "(Later a (<= b c))"},
		{"a[b <= c] <= d;", "(Later (Index a (<= b c)) d)"},
		{"a[b <= c : d <= e] = f <= g;", "(Set (Part a (<= b c) (<= d e)) (<= f g))"},
		{"if a <= b { c <= d; }", "(If (<= a b) (Block (Later c d)))"},
		{"case a <= b { a <= b : { a <= b; } }", "(Case (<= a b) (Arm (<= a b) (Block (Later a b))))"},
		{"wait a <= b;", "(Wait (<= a b))"},
		{"for i = a <= b .. c <= d { }", "(Loop i (<= a b) (<= c d) (Block))"},
		{"if a { }", "(If a (Block))"},
		{"if a { } else { }", "(If a (Block) (Block))"},
		{"if a { } else if b { }", "(If a (Block) (If b (Block)))"},
		{"if a { } else if b { } else { stop; }", "(If a (Block) (If b (Block) (Block (Stop))))"},
		{"if {a} { }", "(If (Join a) (Block))"},
		{"if a { if b { } else { } }", "(If a (Block (If b (Block) (Block))))"},
		{"case a { }", "(Case a)"},
		{"case a { 1 : { } }", "(Case a (Arm 1 (Block)))"},
		{"case a { 1, b, c[1:0] : { } 2 : { stop; } }", "(Case a (Arm 1 b (Part c 1 0) (Block)) (Arm 2 (Block (Stop))))"},
		{"case a { default : { } }", "(Case a (Default (Block)))"},
		{"case a { a ? b : c : { } default : { stop; } }", "(Case a (Arm (Choose a b c) (Block)) (Default (Block (Stop))))"},
		{"case {a} { {a} : { } {2{a}}, {a{b}} : { } }", "(Case (Join a) (Arm (Join a) (Block)) (Arm (Repeat 2 a) (Repeat a b) (Block)))"},
		{"for i = 0..3 { a = i; }", "(Loop i 0 3 (Block (Set a i)))"},
		{"wait 3; stop;", "(Wait 3) (Stop)"},
	} {
		wantsShown(t, "module m ( ) comb { "+c[0]+" } end", "(Design (Module m (Params) (Ports) (Comb (Block "+c[1]+"))))")
	}
}

// wantsExpr asks what an expr is parsed to, where it is the value of a check.
func wantsExpr(t *testing.T, text, want string) {
	t.Helper()
	wantsShown(t, "module m ( ) check c = "+text+" ; end", "(Design (Module m (Params) (Ports) (Check c "+want+")))")
}

func TestSyntaxExprs(t *testing.T) {
	for _, c := range [][2]string{
		{"1", "1"}, {"4'sb1x", "4'sb1x"}, {"a", "a"}, {"(a)", "a"}, {"((((1))))", "1"},
		{"a[1]", "(Index a 1)"}, {"a[(1)]", "(Index a 1)"}, {"a[b[c]]", "(Index a (Index b c))"},
		{"a[3:0]", "(Part a 3 0)"}, {"a[b ? c : d]", "(Index a (Choose b c d))"}, {"a[b ? c : d : e]", "(Part a (Choose b c d) e)"}, {"a[b : c ? d : e]", "(Part a b (Choose c d e))"},
		{"f()", "(Call f)"}, {"f(a)", "(Call f a)"}, {"f(a, 1, g(b))", "(Call f a 1 (Call g b))"}, {"f((a))", "(Call f a)"}, {"f(a ? b : c, d)", "(Call f (Choose a b c) d)"},
		{"signed(a)", "(Signed a)"}, {"unsigned(a + b)", "(Unsigned (+ a b))"}, {"signed((a))", "(Signed a)"}, {"signed(unsigned(a))", "(Signed (Unsigned a))"},
		{"{a}", "(Join a)"}, {"{a, b}", "(Join a b)"}, {"{{a}}", "(Join (Join a))"}, {"{{a}, {b}}", "(Join (Join a) (Join b))"}, {"{a ? b : c, d}", "(Join (Choose a b c) d)"},
		{"{2{a}}", "(Repeat 2 a)"}, {"{2{{a}}}", "(Repeat 2 (Join a))"}, {"{2{{a, b}}}", "(Repeat 2 (Join a b))"}, {"{{2{a}}}", "(Join (Repeat 2 a))"}, {"{{a}{b}}", "(Repeat (Join a) b)"}, {"{{a{b}}{{c{d}}}}", "(Repeat (Repeat a b) (Repeat c d))"}, {"{W + 1{a | b}}", "(Repeat (+ W 1) (| a b))"}, {"{a ? b : c{d ? e : f}}", "(Repeat (Choose a b c) (Choose d e f))"},
		{"~a", "(~ a)"}, {"~-!&|^a", "(~ (- (! (& (| (^ a))))))"}, {"-1", "(- 1)"}, {"~(a + b)", "(~ (+ a b))"}, {"~a[1]", "(~ (Index a 1))"}, {"~f(a)", "(~ (Call f a))"}, {"!{a}", "(! (Join a))"}, {"-signed(a)", "(- (Signed a))"}, {"-(-a)", "(- (- a))"},
		{"a - -b", "(- a (- b))"}, {"a & &b", "(& a (& b))"}, {"a && & b", "(&& a (& b))"}, {"a & & & b", "(& a (& (& b)))"}, {"a | |b || ^c ^ ^d", "(|| (| a (| b)) (^ (^ c) (^ d)))"}, {"!a == !b", "(== (! a) (! b))"}, {"a ^ - b", "(^ a (- b))"}, {"- a - - b", "(- (- a) (- b))"},
		{"a ? b : c", "(Choose a b c)"}, {"a ? b : c ? d : e", "(Choose a b (Choose c d e))"}, {"a ? b ? c : d : e", "(Choose a (Choose b c d) e)"}, {"(a ? b : c) ? d : e", "(Choose (Choose a b c) d e)"}, {"a ? b : (c ? d : e)", "(Choose a b (Choose c d e))"}, {"a ? (b ? c : d) : e", "(Choose a (Choose b c d) e)"},
		{"a || b ? c || d : e || f", "(Choose (|| a b) (|| c d) (|| e f))"}, {"~a ? ~b : ~c", "(Choose (~ a) (~ b) (~ c))"}, {"a + (b ? c : d)", "(+ a (Choose b c d))"}, {"(a ? b : c) + d", "(+ (Choose a b c) d)"}, {"~(a ? b : c)", "(~ (Choose a b c))"},
		{"a ? b : c ? d ? e : f : g", "(Choose a b (Choose c (Choose d e f) g))"},
	} {
		wantsExpr(t, c[0], c[1])
	}
}

// grouped is what exprs with operators between them are, from the document's
// words: the loosest operator is the outermost one, of one group the last one.
func grouped(parts []string) string {
	if len(parts) == 1 {
		return parts[0]
	}
	at := 1
	for i := 1; i < len(parts); i += 2 {
		if groupTold(parts[i]) <= groupTold(parts[at]) {
			at = i
		}
	}
	return "(" + parts[at] + " " + grouped(parts[:at]) + " " + grouped(parts[at+1:]) + ")"
}

func TestSyntaxGroupsOfOperators(t *testing.T) {
	ops := allOperators()
	if len(ops) != 20 || len(theGroups()) != 10 {
		t.Fatal(ops)
	}
	for _, op := range ops {
		wantsExpr(t, "a "+op+" b", "("+op+" a b)")
		wantsExpr(t, "a"+op+"b", "("+op+" a b)")
		for _, other := range ops {
			parts := []string{"a", op, "b", other, "c"}
			wantsExpr(t, strings.Join(parts, " "), grouped(parts))
			wantsExpr(t, "a "+op+" ( b "+other+" c )", "("+op+" a ("+other+" b c))")
			wantsExpr(t, "( a "+op+" b ) "+other+" c", "("+other+" ("+op+" a b) c)")
			for _, third := range ops {
				parts := []string{"a", op, "b", other, "c", third, "d"}
				wantsParsed(t, strings.Join(parts, " "), grouped(parts))
			}
		}
	}
}

// wantsParsed is wantsExpr without the way back, for the many.
func wantsParsed(t *testing.T, text, want string) {
	t.Helper()
	n, code, _ := impl.ParseDesign("module m()check c=" + text + ";end")
	if code != impl.OK || shown(n.Kids[0].Kids[2].Kids[0]) != want {
		t.Errorf("%q: code %d, %s, not %s", text, code, shown(n), want)
	}
}

func TestSyntaxGroupsAreAsTheDocumentHasThem(t *testing.T) {
	// a chain from the loosest to the tightest, and the other way round
	wantsExpr(t, "a || b && c | d ^ e & f == g < h << i + j * k", "(|| a (&& b (| c (^ d (& e (== f (< g (<< h (+ i (* j k))))))))))")
	wantsExpr(t, "a * b + c << d < e == f & g ^ h | i && j || k", "(|| (&& (| (^ (& (== (< (<< (+ (* a b) c) d) e) f) g) h) i) j) k)")
	for _, group := range theGroups() {
		for _, op := range group {
			for _, other := range group {
				wantsExpr(t, "a "+op+" b "+other+" c", "("+other+" ("+op+" a b) c)")
			}
		}
	}
}

func TestSyntaxOperatorsWithUnariesAndChoices(t *testing.T) {
	for _, op := range allOperators() {
		for _, unary := range theUnaries() {
			wantsExpr(t, unary+" a "+op+" "+unary+" b", "("+op+" ("+unary+" a) ("+unary+" b))")
			wantsExpr(t, unary+" ( a "+op+" b )", "("+unary+" ("+op+" a b))")
			wantsExpr(t, unary+" "+unary+" a "+op+" b", "("+op+" ("+unary+" ("+unary+" a)) b)")
		}
		all := "(" + op + " a b)"
		wantsExpr(t, "a "+op+" b ? a "+op+" b : a "+op+" b", "(Choose "+all+" "+all+" "+all+")")
		wantsExpr(t, "a "+op+" b ? c : d ? a "+op+" b : e", "(Choose "+all+" c (Choose d "+all+" e))")
		wantsExpr(t, "a "+op+" ( b ? c : d )", "("+op+" a (Choose b c d))")
		wantsExpr(t, "( b ? c : d ) "+op+" a", "("+op+" (Choose b c d) a)")
	}
}

// wantsFaultAt takes a text with a @ right ahead of where the fault is told.
func wantsFaultAt(t *testing.T, text string, code int) {
	t.Helper()
	at := strings.Index(text, "@")
	text = text[:at] + text[at+1:]
	n, gotCode, gotAt := impl.ParseDesign(text)
	if gotCode != code || gotAt != at || !sameNode(n, impl.Node{}) {
		t.Errorf("%.1000q: %s, code %d at %d, not %d at %d", text, shown(n), gotCode, gotAt, code, at)
	}
}

func wantsSyntaxFaults(t *testing.T, ahead string, texts []string) {
	t.Helper()
	for _, text := range texts {
		wantsFaultAt(t, ahead+text, impl.ErrSyntax)
	}
}

func TestSyntaxFaultsOfModules(t *testing.T) {
	wantsSyntaxFaults(t, "", []string{
		"@a", "@end", "@;", "@1", "@2'd9", "@Module m ( ) end", "module@", "module @end", "module @1", "module m@", "module m @end", "module m @;",
		"module m (@", "module m ( @a )", "module m ( in@", "module m ( in @)", "module m ( in @out )", "module m ( in a @b )", "module m ( in a , @)", "module m ( in a , @, )", "module m ( @, in a )",
		"module m ( in a @signed )", "module m ( in signed @signed a )", "module m ( in [ 1 ] @signed a )", "module m ( in [ @] a )", "module m ( in [ 1 @: 0 ] a )", "module m ( in [ 1 ] @[ 2 ] a )", "module m ( in a @[ 1 ] )", "module m ( in @unsigned a )",
		"module m # @a", "module m # ( @)", "module m # ( A @)", "module m # ( A = @)", "module m # ( A = 1 , @)", "module m # ( A = 1 @B = 2 )", "module m # ( @1 )", "module m # ( A = 1 ) @# ( B = 1 )", "module m ( ) @# ( A = 1 ) end",
		"module m ( )@", "module m ( ) \n @", "module m ( ) @;", "module m ( ) @module", "module m ( ) @) end", "module m ( ) @a = 1 ; end", "module m ( ) @in a ; end", "module m ( ) @if a { } end", "module m ( ) @} end", "module m ( ) @else { } end",
		"module m ( ) end @end", "module m ( ) end @a", "module m ( ) end @;", "module m ( ) end module@", "module m ( ) end @1", "module m ( ) end @2'd9",
	})
}

func TestSyntaxFaultsOfItems(t *testing.T) {
	wantsSyntaxFaults(t, "module m ( ) wire w ; ", []string{
		"wire @;", "wire a @, b ;", "wire a @= 1 ;", "wire a @end", "wire @1 ;", "wire a @[ 1 ] ;", "reg a = @;", "reg a @b ;", "reg @= 1 ;", "reg a = 1 @= 2 ;",
		"mem a @;", "mem a [ @] ;", "mem a [ 1 ] @= 1 ;", "mem a [ 1 @: 2 ] ;", "mem [ 1 ] @[ 2 ] ;", "const @= 1 ;", "const A @;", "const A = @;", "const A = @= 1 ;", "const @[ 1 ] A = 1 ;", "enum @;", "enum A @B ;", "enum A , @;", "enum A @= 1 ;", "enum @, A ;",
		"assign @= 1 ;", "assign a @<= 1 ;", "assign a @( ) = 1 ;", "assign a [ @] = 1 ;", "assign a [ 1 ] @[ 2 ] = 1 ;", "assign a [ 1 : @] = 1 ;", "assign a [ 1 : 2 @: 3 ] = 1 ;", "assign @( a ) = 1 ;", "assign @{ a , b } = 1 ;", "assign @1 = 1 ;", "assign a = 1 @= 2 ;",
		"comb @;", "comb @a = 1 ;", "comb @a { }", "on @{ }", "on a @b { }", "on @1 { }", "on a @;", "start @a { }", "start { } @;", "check @= 1 ;", "check c @1 ;", "check c = @;", "check c = 1 @end",
		"func @( ) = 1 ;", "func f @= 1 ;", "func f ( @in a ) = 1 ;", "func f ( a @b ) = 1 ;", "func f ( a , @) = 1 ;", "func f ( ) @1 ;", "func f ( ) = @;", "func f ( @1 ) = 1 ;", "func f ( signed @) = 1 ;", "func f ( ) @{ }",
		"for @= 0 .. 1 { }", "for i @in 0 .. 1 { }", "for i = @.. 1 { }", "for i = 0 @: 1 { }", "for i = 0 @{ }", "for i = 0 .. { @}", "for i = 0 .. 1 @;", "for i = 0 .. 1 { @i = 1 ; }", "for i = 0 .. 1 { @end", "for i = 0 @. . 1 { }",
		"when { @}", "when @;", "when a @;", "when a { } else @when b { }", "when a { } else @;", "when a { } else { } @else { }", "when a { @a = 1 ; }", "@else { }",
		"use @( ) ;", "use m @( ) ;", "use m u @;", "use m u ( ) @end", "use m u ( @a ) ;", "use m u ( . @( a ) ) ;", "use m u ( . a @) ;", "use m u ( . a ( @) ) ;", "use m u ( . a ( b ) , @) ;", "use m u ( . a ( b @, c ) ) ;", "use m u # ( @) ( ) ;", "use m u @. a ( b ) ;",
	})
}

func TestSyntaxFaultsOfStatements(t *testing.T) {
	texts := []string{
		"a @;", "a @: 1 ;", "a @== 1 ;", "a @< = 1 ;", "a @( ) = 1 ;", "a @+ 1 ;", "a = @;", "a <= @;", "a = 1 @}", "a = @= 1 ;", "a <= @<= 1 ;", "a = 1 <= @= 2 ;", "a = 1 @= 2 ;", "a <= 1 @= 2 ;", "@( a ) = 1 ;", "@{ a } = 1 ;", "@1 = a ;", "@2'd9 = a ;", "@~ a = 1 ;", "@; ",
		"@wire a ;", "@comb { }", "@else { }", "@default : { }", "@when a { }", "@{ } ", "@signed ( a ) = 1 ;", "a [ @] = 1 ;", "a [ 1 @, 2 ] = 1 ;", "a [ 1 : @] = 1 ;", "a [ 1 ] @[ 2 ] = 1 ;", "a [ 1 ] @( 2 ) = 1 ;",
		"if { @}", "if @;", "if a @;", "if a @b = 1 ;", "if a { } else @;", "if a { } else @b = 1 ;", "if a { } else { } @else { }", "if a { } else if { @}", "if a { } else if @;", "if a { @2 { b } } }", "if a @else { }", "if ( a ) @b = 1 ;", "if a @: { }",
		"case { @}", "case @;", "case a @;", "case a { @; }", "case a { 1 @{ } }", "case a { 1 , @: { } }", "case a { @: { } }", "case a { 1 : @; }", "case a { 1 : @b = 1 ; }", "case a { default @{ } }", "case a { default : { } @1 : { } }", "case a { default : { } @default : { } }", "case a { 1 : { } @, 2 : { } }", "case a { 1 , @default : { } }", "case a { a ? b : { @} }", "case a @1 : { }",
		"for @= 0 .. 1 { }", "for i = 0 .. 1 { @wire a ; }", "for i = 0 .. 1 @i = 1 ;", "for i = 0 @, 1 { }", "for i @<= 0 .. 1 { }", "for i @[ 1 ] = 0 .. 1 { }", "wait @;", "wait 1 @}", "wait 1 @2 ;", "stop @}", "stop @1 ;", "stop @( ) ;",
	}
	wantsSyntaxFaults(t, "module m ( ) comb { stop ; ", texts)
	wantsSyntaxFaults(t, "module m ( ) start { if a { } else { ", texts)
}

func TestSyntaxFaultsOfExprs(t *testing.T) {
	wantsSyntaxFaults(t, "module m ( ) check c = ", []string{
		"@;", "@)", "( @)", "( a @;", "( a @, b )", "( a ) @)", "a @b", "a @1", "1 @a", "1 @[ 0 ]", "1 @( )", "a @{ b }", "a [ 1 ] @[ 2 ]", "f ( a @b )", "f ( @, a )", "f ( a , @)", "f ( a ) @( b )", "f ( a ) @[ 1 ]", "a [ 1 ] @( b )", "a [ 1 @;", "a [ @: 1 ]", "( a ) @[ 1 ]", "( a ) @( b )",
		"a + @;", "a + @+ b", "@+ a", "@* a", "a @~ b", "a @! b", "a @! = b", "~ @;", "~ @) a", "@&& a", "@|| a", "a & @&& b", "a && @&& b", "a == @== b", "a @= b", "a === @= b", "a < @< b", "@<= a", "a @.. b", "a @. b", "a @# b", "@# a", "@. a",
		"a ? @;", "a ? b @;", "a ? b : @;", "a ? @: b", "@? a : b", "a @: b", "a ? b : c @: d", "a ? b @, c", "( a ? b @)", "a ? b ? c : d @;", "{ @;", "{ @}", "{ a , @}", "{ @, a }", "{ a @b }", "{ a @;", "{ { @} }",
		"{ 2 { @} }", "{ 2 { a @, b } }", "{ 2 { a } @, b }", "{ 2 { a } @;", "{ 2 , 3 @{ a } }", "{ 2 { a } @{ b } }", "{ 2 { a @;", "{ 2 { a } } @}",
		"signed @;", "signed @a", "signed ( @)", "signed ( a @, b )", "signed ( a ) @[ 1 ]", "unsigned @[ 1 ]", "unsigned ( a @;", "signed @signed ( a )", "@if", "@in", "@end", "@module", "~ @stop", "a + @wire",
	})
}

func TestSyntaxFaultsWhereTooFewTokensAre(t *testing.T) {
	text := "module m # ( A = 1 ) ( in [ 2 ] a ) comb { if a { b <= c [ 1 : 0 ] ; } else { case a { 1 , 2 : { } default : { } } } } use m u ( . a ( { 2 { b } } ) ) ; end"
	tokens, code, _ := impl.Tokens(text)
	if _, parsed, _ := impl.ParseDesign(text); code != impl.OK || parsed != impl.OK {
		t.Fatal(code, parsed)
	}
	for _, last := range tokens[:len(tokens)-1] {
		for _, behind := range []string{"", " ", "\n\n "} {
			wantsFaultAt(t, text[:last.At+len(last.Text)]+behind+"@", impl.ErrSyntax)
		}
	}
}

func TestSyntaxFaultsOfTokens(t *testing.T) {
	fits, tooLong := longNames()
	wantsShown(t, "module "+fits+" ( ) end", "(Design (Module "+fits+" (Params) (Ports)))")
	for _, c := range []struct {
		text string
		code int
	}{
		{"module @" + tooLong + " ( ) end", impl.ErrName},
		{"end @" + tooLong, impl.ErrName},
		{"module m ( ) end @\x00", impl.ErrForm},
		{"module m ( ) end @\t", impl.ErrForm},
		{"end end @$", impl.ErrForm},
		{"module m ( ) check c = @4' ; end", impl.ErrForm},
		{"module m ( ) check c = 2'd9 + @4'q1 ; end", impl.ErrForm},
		{"@ module" + strings.Repeat(" ", impl.MaxText), impl.ErrLong},
		{"@" + strings.Repeat("~", impl.MaxText+1), impl.ErrLong},
		{strings.Repeat("~ ", impl.MaxTokens) + "@~", impl.ErrMany},
	} {
		wantsFaultAt(t, c.text, c.code)
	}
}

// wrongNumbers are numbers' tokens, each with the code that NumberBits has.
func wrongNumbers() map[string]int {
	long := strings.Repeat("0", impl.MaxLine+1)
	return map[string]int{
		"2147483648": impl.ErrRange, "2'd9": impl.ErrRange, "3'hf": impl.ErrRange, "0'b1": impl.ErrWidth, "65'h0": impl.ErrWidth, "4'b2": impl.ErrForm, "4'dx": impl.ErrForm,
		long: impl.ErrLong, "4'b" + long: impl.ErrLong,
	}
}

func TestSyntaxFaultsOfNumbers(t *testing.T) {
	for number, code := range wrongNumbers() {
		for _, text := range []string{
			"module m # ( A = @N ) ( ) end", "module m ( in [ @N ] a ) end", "module m ( ) reg a = @N ; end", "module m ( ) mem a [ @N ] ; end", "module m ( ) const A = @N ; end", "module m ( ) check c = @N ; end", "module m ( ) check c = ~ @N ; end", "module m ( ) check c = a + @N ; end",
			"module m ( ) check c = a ? @N : b ; end", "module m ( ) check c = a ? b : @N ; end", "module m ( ) check c = { @N { a } } ; end", "module m ( ) check c = { 2 { @N } } ; end", "module m ( ) check c = { a , @N } ; end", "module m ( ) check c = f ( @N ) ; end", "module m ( ) check c = signed ( @N ) ; end", "module m ( ) check c = a [ 1 : @N ] ; end",
			"module m ( ) for i = @N .. 1 { } end", "module m ( ) for i = 1 .. @N { } end", "module m ( ) when @N { } end", "module m ( ) use m u # ( A = @N ) ( ) ; end", "module m ( ) use m u ( . a ( @N ) ) ; end", "module m ( ) comb { wait @N ; } end", "module m ( ) comb { if @N { } } end", "module m ( ) comb { case a { @N : { } } } end", "module m ( ) comb { a [ @N ] <= 1 ; } end",
			"module m ( ) check c = ( ( @N ; ; end", "module m ( ) check c = @N N", "module m ( ) check c = @N",
		} {
			wantsFaultAt(t, strings.ReplaceAll(text, "N", number), code)
		}
		// where no number could stand it is a token like others
		for _, text := range []string{
			"@N", "module @N", "module m ( in @N )", "module m ( ) @N", "module m ( ) wire @N ; end", "module m ( ) enum A , @N ; end", "module m ( ) check c = a @N", "module m ( ) check c = @) N", "module m ( ) check c = 1 @N", "module m ( ) comb { @N = 1 ; }", "module m ( ) check c = { 2 { a } @N", "module m ( ) end @N", "module m ( ) use m u ( @N )",
		} {
			wantsFaultAt(t, strings.ReplaceAll(text, "N", number), impl.ErrSyntax)
		}
	}
	// a number's code counts where it stands, ahead of all that is behind it
	wantsFaultAt(t, "module m ( ) check c = @2'd9 ; ;", impl.ErrRange)
	wantsFaultAt(t, "module m ( ) check c = @; 2'd9 ;", impl.ErrSyntax)
	wantsFaultAt(t, "module m ( ) check c = @0'b1 + 2'd9 ; end", impl.ErrWidth)
}

// checkOf is a design with one check.
func checkOf(expr impl.Node) impl.Node {
	return node(impl.NDesign, "", node(impl.NModule, "m", node(impl.NParams, ""), node(impl.NPorts, ""), node(impl.NCheck, "c", expr)))
}

// chain has n unary ops around a name.
func chain(n int) impl.Node {
	out := node(impl.NName, "a")
	for range n {
		out = node(impl.NUnary, "~", out)
	}
	return out
}

// deepTexts are texts each of which has so many nodes within each other, by a
// form of its own.
func deepTexts(depth int) []string {
	rest := depth - 4
	exprs := []string{
		strings.Repeat("~", rest) + "a",
		strings.Repeat("-(", rest) + "a" + strings.Repeat(")", rest),
		"a" + strings.Repeat("+a", rest),
		strings.Repeat("a?b:", rest) + "a",
		strings.Repeat("a?", rest) + "a" + strings.Repeat(":b", rest),
		strings.Repeat("a[", rest) + "a" + strings.Repeat("]", rest),
		strings.Repeat("a[b:", rest) + "a" + strings.Repeat("]", rest),
		strings.Repeat("f(", rest) + "a" + strings.Repeat(")", rest),
		strings.Repeat("f(b,", rest-1) + "f()" + strings.Repeat(")", rest-1) + "?a:" + "b",
		strings.Repeat("{", rest) + "a" + strings.Repeat("}", rest),
		strings.Repeat("{2{", rest) + "a" + strings.Repeat("}}", rest),
		strings.Repeat("signed(", rest) + "a" + strings.Repeat(")", rest),
		strings.Repeat("((", 300) + strings.Repeat("~", rest) + "a" + strings.Repeat("))", 300),
	}
	var texts []string
	for _, expr := range exprs {
		texts = append(texts, "module m()check c="+expr+";end")
	}
	ifs := depth - 5
	return append(texts,
		"module m()comb{if a{}"+strings.Repeat("else if a{}", ifs-1)+"}end",
		"module m()comb{"+strings.Repeat("if a{}else ", ifs-1)+"{} stop; wait "+strings.Repeat("~", depth-6)+"a;}end",
		"module m()"+strings.Repeat("when a{", (depth-4)/2)+strings.Repeat("}", (depth-4)/2)+"check c="+strings.Repeat("~", rest)+"a;end",
		"module m#(A="+strings.Repeat("~", depth-5)+"a)()end",
		"module m(in["+strings.Repeat("~", depth-6)+"a]b)end",
	)
}

func TestSyntaxDepth(t *testing.T) {
	for _, text := range deepTexts(impl.MaxDeep) {
		n, code, at := impl.ParseDesign(text)
		if code != impl.OK || at != 0 || !impl.NodeOK(n) {
			t.Errorf("%.300q: code %d at %d", text, code, at)
		}
		wantsDesign(t, printTold(n), n)
	}
	for _, depth := range []int{impl.MaxDeep + 1, impl.MaxDeep + 2, 1000} {
		for _, text := range deepTexts(depth) {
			wantsFaultAt(t, "@"+text, impl.ErrDeep)
		}
	}
	wantsNode(t, checkOf(chain(impl.MaxDeep-4)), true)
	wantsNode(t, checkOf(chain(impl.MaxDeep-3)), false)
}

func TestSyntaxAsDeepAsTokensGo(t *testing.T) {
	head := "module m()check c="
	all := impl.MaxTokens - 8
	for _, open := range []string{"(", "{", "~", "f("} {
		text := head + strings.Repeat(open, all/len(open))
		wantsFaultAt(t, text+"@", impl.ErrSyntax)
		wantsFaultAt(t, text+"@;", impl.ErrSyntax)
	}
	half := (all - 2) / 2
	wantsShown(t, head+strings.Repeat("(", half)+"a"+strings.Repeat(")", half)+";end", "(Design (Module m (Params) (Ports) (Check c a)))")
	for _, pair := range []string{"{}", "[]"} {
		open := strings.Replace(pair[:1], "[", "a[", 1)
		size := half * 2 / (len(open) + 1)
		wantsFaultAt(t, "@"+head+strings.Repeat(open, size)+"a"+strings.Repeat(pair[1:], size)+";end", impl.ErrDeep)
	}
	wantsFaultAt(t, "@"+head+"a"+strings.Repeat("+a", half)+";end", impl.ErrDeep)
	wantsFaultAt(t, "@"+head+strings.Repeat("a?b:", half/2)+"a;end", impl.ErrDeep)
	wantsFaultAt(t, "module m()comb{"+strings.Repeat("if a{", impl.MaxTokens/4)+"@", impl.ErrSyntax)
	wantsFaultAt(t, "module m()"+strings.Repeat("when a{", impl.MaxTokens/4)+"@", impl.ErrSyntax)
}

// enumOf is a text with so many nodes.
func enumOf(nodes int) string {
	return "module m()enum a" + strings.Repeat(",a", nodes-6) + ";end"
}

// portsOf likewise, by the ports of a func.
func portsOf(nodes int) string {
	return "module m()func f(a" + strings.Repeat(",a", (nodes-10)/2) + ")=" + strings.Repeat("~", nodes%2) + "a;end"
}

func nodesOf(n impl.Node) int {
	count := 1
	for _, kid := range n.Kids {
		count += nodesOf(kid)
	}
	return count
}

func TestSyntaxNodeCount(t *testing.T) {
	for _, of := range []func(int) string{enumOf, portsOf} {
		n, code, at := impl.ParseDesign(of(impl.MaxNodes))
		if code != impl.OK || at != 0 || nodesOf(n) != impl.MaxNodes || !impl.NodeOK(n) {
			t.Fatalf("code %d at %d, %d nodes", code, at, nodesOf(n))
		}
		wantsDesign(t, printTold(n), n)
		wantsFaultAt(t, "@"+of(impl.MaxNodes+1), impl.ErrMany)
		wantsFaultAt(t, "@"+of(impl.MaxNodes+2), impl.ErrMany)
	}
	n, _, _ := impl.ParseDesign(enumOf(impl.MaxNodes))
	wantsNode(t, n, true)
	n.Kids[0].Kids[2].Kids = append(n.Kids[0].Kids[2].Kids, node(impl.NName, "a"))
	wantsNode(t, n, false)
	// syntax first, then depth, then the count
	many := strings.TrimSuffix(enumOf(impl.MaxNodes+1), "end")
	wantsFaultAt(t, many+"@", impl.ErrSyntax)
	wantsFaultAt(t, many+"@;", impl.ErrSyntax)
	deep := "check c=" + strings.Repeat("~", impl.MaxDeep) + "a;end"
	wantsFaultAt(t, "@"+strings.TrimSuffix(portsOf(impl.MaxNodes+1), "end")+deep, impl.ErrDeep)
	wantsFaultAt(t, "module m()check c="+strings.Repeat("~", impl.MaxDeep)+"a@", impl.ErrSyntax)
	wantsFaultAt(t, "module m()check c="+strings.Repeat("~", impl.MaxDeep)+"@2'd9;end", impl.ErrRange)
}

func TestSyntaxTextLimits(t *testing.T) {
	body := "module m ( ) end"
	ahead := strings.Repeat(" ", impl.MaxText-len(body))
	wantsShown(t, ahead+body, "(Design (Module m (Params) (Ports)))")
	wantsShown(t, body+strings.Repeat("\n", impl.MaxText-len(body)), "(Design (Module m (Params) (Ports)))")
	wantsShown(t, strings.Repeat(" ", impl.MaxText), "(Design)")
	wantsFaultAt(t, "@ "+ahead+body, impl.ErrLong)
	wantsFaultAt(t, ahead+"module m ( ) @enc", impl.ErrSyntax)
	wantsFaultAt(t, body+ahead[1:]+"@;", impl.ErrSyntax)
	// as many tokens as can be
	brackets := (impl.MaxTokens - 10) / 2
	full := "module m ( ) check c = " + strings.Repeat("(", brackets) + "a" + strings.Repeat(")", brackets) + ";end"
	if list, code, _ := impl.Tokens(full); code != impl.OK || len(list) != impl.MaxTokens {
		t.Fatal(len(list), code)
	}
	wantsShown(t, full, "(Design (Module m (Params) (Ports) (Check c a)))")
	wantsFaultAt(t, full+" @module", impl.ErrMany)
	wantsFaultAt(t, strings.Replace(full, "c = ", "c = ~", 1)[:len(full)-2]+"@end", impl.ErrMany)
}

func TestPrintDesign(t *testing.T) {
	for _, c := range [][2]string{
		{"", ""},
		{"module m()end", "module m ( ) end\n"},
		{"module m()end module n()end", "module m ( ) end module n ( ) end\n"},
		{"module m#(A=1,B=-2)(in a,out signed[4]b)end", "module m # ( A = 1 , B = ( - 2 ) ) ( in a , out signed [ 4 ] b ) end\n"},
		{"module m()wire a;wire b;end", "module m ( ) wire a ;\nwire b ;\nend\n"},
		{"module m()reg[2]a=1;mem a[4];const A=1;enum A,B;end", "module m ( ) reg [ 2 ] a = 1 ;\nmem a [ 4 ] ;\nconst A = 1 ;\nenum A , B ;\nend\n"},
		{"module m()comb{}on c{}start{stop;}end", "module m ( ) comb { } on c { } start { stop ;\n} end\n"},
		{"module m()func signed f(a,[2]b)=a;end", "module m ( ) func signed f ( a , [ 2 ] b ) = a ;\nend\n"},
		{"module m()for i=0..3{wire a;}when a{}else{}end", "module m ( ) for i = 0 .. 3 { wire a ;\n} when a { } else { } end\n"},
		{"module m()use n u();use n u#(A=1)(.a(b),.c(d));end", "module m ( ) use n u ( ) ;\nuse n u # ( A = 1 ) ( . a ( b ) , . c ( d ) ) ;\nend\n"},
		{"module m()comb{a=b;a[1]<=b;a[2:1]=b<=c;}end", "module m ( ) comb { a = b ;\na [ 1 ] <= b ;\na [ 2 : 1 ] = ( b <= c ) ;\n} end\n"},
		{"module m()comb{if a{}else if b{}else{wait 1;}}end", "module m ( ) comb { if a { } else if b { } else { wait 1 ;\n} } end\n"},
		{"module m()comb{case a{1,2:{}3:{stop;}default:{}}for i=0..1{}}end", "module m ( ) comb { case a { 1 , 2 : { } 3 : { stop ;\n} default : { } } for i = 0 .. 1 { } } end\n"},
		{"module m()check c=((a+b*~c));check d={2{{a,b}}};end", "module m ( ) check c = ( a + ( b * ( ~ c ) ) ) ;\ncheck d = { 2 { { a , b } } } ;\nend\n"},
		{"module m()check c=a?b:c?f():f(g(1),a[b]);end", "module m ( ) check c = ( a ? b : ( c ? f ( ) : f ( g ( 1 ) , a [ b ] ) ) ) ;\nend\n"},
		{"module m()check c=signed(a)+unsigned(-a[1:0]);end", "module m ( ) check c = ( signed ( a ) + unsigned ( ( - a [ 1 : 0 ] ) ) ) ;\nend\n"},
	} {
		n, code, _ := impl.ParseDesign(c[0])
		text, printCode := impl.PrintDesign(n)
		if code != impl.OK || printCode != impl.OK || text != c[1] {
			t.Errorf("%q: codes %d, %d, %q, not %q", c[0], code, printCode, text, c[1])
		}
	}
}

func wantsNode(t *testing.T, n impl.Node, want bool) {
	t.Helper()
	text, code := impl.PrintDesign(n)
	if got := impl.NodeOK(n); got != want || (code == impl.ErrBad) == want || code != impl.OK && text != "" {
		t.Errorf("NodeOK is %v, PrintDesign %.200q with code %d: %.1000s", got, text, code, shown(n))
	}
}

// inModule is a design with these items.
func inModule(kids ...impl.Node) impl.Node {
	return node(impl.NDesign, "", node(impl.NModule, "m", append([]impl.Node{node(impl.NParams, ""), node(impl.NPorts, "")}, kids...)...))
}

func inBlock(kids ...impl.Node) impl.Node {
	return inModule(node(impl.NComb, "", node(impl.NBlock, "", kids...)))
}

func TestNodesWithTexts(t *testing.T) {
	a, fits := node(impl.NName, "a"), strings.Repeat("n", impl.MaxName)
	plain, block := node(impl.NType, ""), node(impl.NBlock, "")
	texts := append(theWords(), "", " ", "9", "9a", "a b", "a ", " a", "a\n", "a;", "\u00e9", "\x00", "1", "4'b1", "+", fits+"n")
	for _, text := range texts {
		for _, n := range []impl.Node{
			node(impl.NDesign, "", node(impl.NModule, text, node(impl.NParams, ""), node(impl.NPorts, ""))),
			inModule(node(impl.NWire, text, plain)), inModule(node(impl.NReg, text, plain)), inModule(node(impl.NMem, text, plain, a)), inModule(node(impl.NConst, text, a)), inModule(node(impl.NEnum, "", node(impl.NName, text))),
			inModule(node(impl.NOn, text, block)), inModule(node(impl.NCheck, text, a)), inModule(node(impl.NFunc, text, plain, node(impl.NPorts, ""), a)), inModule(node(impl.NFunc, "f", plain, node(impl.NPorts, "", node(impl.NIn, text, plain)), a)),
			inModule(node(impl.NFor, text, a, a, node(impl.NItems, ""))), inModule(node(impl.NUse, text, a, node(impl.NParams, ""), node(impl.NConns, ""))), inModule(node(impl.NUse, "m", node(impl.NName, text), node(impl.NParams, ""), node(impl.NConns, ""))),
			inModule(node(impl.NUse, "m", a, node(impl.NParams, "", node(impl.NParam, text, a)), node(impl.NConns, ""))), inModule(node(impl.NUse, "m", a, node(impl.NParams, ""), node(impl.NConns, "", node(impl.NConn, text, a)))),
			inBlock(node(impl.NLoop, text, a, a, block)), inBlock(node(impl.NSet, "", node(impl.NName, text), a)), inBlock(node(impl.NSet, "", node(impl.NIndex, text, a), a)), inBlock(node(impl.NLater, "", node(impl.NPart, text, a, a), a)),
			checkOf(node(impl.NName, text)), checkOf(node(impl.NIndex, text, a)), checkOf(node(impl.NPart, text, a, a)), checkOf(node(impl.NCall, text)),
		} {
			wantsNode(t, n, false)
		}
	}
	wantsNode(t, checkOf(node(impl.NCall, fits, node(impl.NName, fits))), true)
}

func TestNodesWithTextsOfTheirOwn(t *testing.T) {
	a := node(impl.NName, "a")
	for _, number := range []string{"0", "007", "4'b1x", "64'hz", "3'sd7", strings.Repeat("0", impl.MaxLine)} {
		wantsNode(t, checkOf(node(impl.NNumber, number)), true)
	}
	for _, number := range []string{"", "a", "-1", " 1", "1 ", "2147483648", "4'b2", "2'd9", "0'b1", "4'", "1 1", strings.Repeat("0", impl.MaxLine+1)} {
		wantsNode(t, checkOf(node(impl.NNumber, number)), false)
	}
	for _, op := range append(allMarks(), "", "a", "signed", " +", "+ ", "&&&", "<<<", "!==", "**", "1", "+-") {
		wantsNode(t, checkOf(node(impl.NUnary, op, a)), slices.Contains(theUnaries(), op))
		wantsNode(t, checkOf(node(impl.NBinary, op, a, a)), slices.Contains(allOperators(), op))
		wantsNode(t, checkOf(node(impl.NChoose, op, a, a, a)), op == "")
		wantsNode(t, inModule(node(impl.NWire, "a", node(impl.NType, op))), op == "" || op == "signed")
	}
	wantsNode(t, inModule(node(impl.NWire, "a", node(impl.NType, "unsigned"))), false)
}

func TestNodesWithTextWhereNoneIsTold(t *testing.T) {
	a, block := node(impl.NName, "a"), node(impl.NBlock, "")
	for _, text := range []string{"", "a", "x", "module", "1", "=", " "} {
		for _, n := range []impl.Node{
			node(impl.NDesign, text), inModule(node(impl.NEnum, text, a)), inModule(node(impl.NAssign, text, a, a)), inModule(node(impl.NComb, text, block)), inModule(node(impl.NStart, text, block)), inModule(node(impl.NWhen, text, a, node(impl.NItems, ""))), inModule(node(impl.NWhen, "", a, node(impl.NItems, text))),
			node(impl.NDesign, "", node(impl.NModule, "m", node(impl.NParams, text), node(impl.NPorts, ""))), node(impl.NDesign, "", node(impl.NModule, "m", node(impl.NParams, ""), node(impl.NPorts, text))), inModule(node(impl.NUse, "m", a, node(impl.NParams, ""), node(impl.NConns, text))),
			inModule(node(impl.NComb, "", node(impl.NBlock, text))), inBlock(node(impl.NSet, text, a, a)), inBlock(node(impl.NLater, text, a, a)), inBlock(node(impl.NIf, text, a, block)), inBlock(node(impl.NCase, text, a)), inBlock(node(impl.NCase, "", a, node(impl.NArm, text, a, block))), inBlock(node(impl.NCase, "", a, node(impl.NDefault, text, block))),
			inBlock(node(impl.NWait, text, a)), inBlock(node(impl.NStop, text)), checkOf(node(impl.NJoin, text, a)), checkOf(node(impl.NRepeat, text, a, a)), checkOf(node(impl.NSigned, text, a)), checkOf(node(impl.NUnsigned, text, a)), checkOf(node(impl.NChoose, text, a, a, a)),
		} {
			wantsNode(t, n, text == "")
		}
	}
}

// homes has for each kind what makes a design with a node of it in it.
func homes() map[int]func(n impl.Node) impl.Node {
	a, params, ports := node(impl.NName, "a"), node(impl.NParams, ""), node(impl.NPorts, "")
	module := func(kids ...impl.Node) impl.Node { return node(impl.NDesign, "", node(impl.NModule, "m", kids...)) }
	all := map[int]func(n impl.Node) impl.Node{
		impl.NDesign: func(n impl.Node) impl.Node { return n },
		impl.NModule: func(n impl.Node) impl.Node { return node(impl.NDesign, "", n) },
		impl.NParams: func(n impl.Node) impl.Node { return module(n, ports) },
		impl.NParam:  func(n impl.Node) impl.Node { return module(node(impl.NParams, "", n), ports) },
		impl.NPorts:  func(n impl.Node) impl.Node { return module(params, n) },
		impl.NType:   func(n impl.Node) impl.Node { return inModule(node(impl.NWire, "a", n)) },
		impl.NItems:  func(n impl.Node) impl.Node { return inModule(node(impl.NWhen, "", a, n)) },
		impl.NConns:  func(n impl.Node) impl.Node { return inModule(node(impl.NUse, "m", a, params, n)) },
		impl.NConn: func(n impl.Node) impl.Node {
			return inModule(node(impl.NUse, "m", a, params, node(impl.NConns, "", n)))
		},
		impl.NBlock: func(n impl.Node) impl.Node { return inModule(node(impl.NComb, "", n)) },
	}
	for kind := impl.NIn; kind <= impl.NChoose; kind++ {
		switch {
		case all[kind] != nil:
		case kind <= impl.NOut:
			all[kind] = func(n impl.Node) impl.Node { return module(params, node(impl.NPorts, "", n)) }
		case kind <= impl.NUse:
			all[kind] = func(n impl.Node) impl.Node { return inModule(n) }
		case kind == impl.NArm || kind == impl.NDefault:
			all[kind] = func(n impl.Node) impl.Node { return inBlock(node(impl.NCase, "", a, n)) }
		case kind <= impl.NStop:
			all[kind] = func(n impl.Node) impl.Node { return inBlock(n) }
		default:
			all[kind] = checkOf
		}
	}
	return all
}

// sorts are nodes of which each is good where it is at home.
func sorts() []impl.Node {
	a, block, plain := node(impl.NName, "a"), node(impl.NBlock, ""), node(impl.NType, "")
	return []impl.Node{
		a, node(impl.NNumber, "1"), node(impl.NIndex, "a", a), node(impl.NCall, "f"), plain, block, node(impl.NItems, ""), node(impl.NParams, ""), node(impl.NPorts, ""), node(impl.NConns, ""),
		node(impl.NIf, "", a, block), node(impl.NStop, ""), node(impl.NWire, "w", plain), node(impl.NParam, "P", a), node(impl.NIn, "i", plain), node(impl.NOut, "o", plain), node(impl.NConn, "c", a),
		node(impl.NPorts, "", node(impl.NOut, "o", plain)), node(impl.NModule, "m", node(impl.NParams, ""), node(impl.NPorts, "")), node(impl.NDesign, ""), {},
		node(impl.NArm, "", a, block), node(impl.NDefault, "", block),
	}
}

// kidLists are every list of up to three of the sorts, and some longer ones.
func kidLists() [][]impl.Node {
	lists := [][]impl.Node{nil}
	from := 0
	for range 3 {
		to := len(lists)
		for _, list := range lists[from:to] {
			for _, n := range sorts() {
				lists = append(lists, append(slices.Clone(list), n))
			}
		}
		from = to
	}
	a, block, plain := node(impl.NName, "a"), node(impl.NBlock, ""), node(impl.NType, "")
	arm, other := node(impl.NArm, "", a, block), node(impl.NDefault, "", block)
	return append(lists, []impl.Node{a, a, a, a}, []impl.Node{a, a, a, block}, []impl.Node{a, a, block, block}, []impl.Node{plain, node(impl.NPorts, ""), a, a},
		[]impl.Node{a, arm, arm, other}, []impl.Node{a, arm, other, arm}, []impl.Node{a, arm, other, other}, []impl.Node{a, block, block, block})
}

// textFor is a good text of a kind.
func textFor(kind int) string {
	switch {
	case kind == impl.NNumber:
		return "1"
	case kind == impl.NUnary || kind == impl.NBinary:
		return "-"
	case kind != impl.NType && strings.Contains(formTold(impl.Node{Kind: kind}), "$"):
		return "n"
	}
	return ""
}

// Every kind with every list of up to three kids, held against what the texts
// of the language give.
func TestNodesWithAllListsOfKids(t *testing.T) {
	lists := kidLists()
	for kind, home := range homes() {
		good := 0
		for _, list := range lists {
			n := home(node(kind, textFor(kind), list...))
			want := isDesign(n)
			if want {
				good++
			}
			if impl.NodeOK(n) != want {
				t.Errorf("NodeOK is %v: %s", !want, shown(n))
			}
		}
		if good == 0 {
			t.Errorf("no good node of kind %d", kind)
		}
	}
}

func TestNodesOfWrongKinds(t *testing.T) {
	a := node(impl.NName, "a")
	for _, kind := range []int{0, -1, 48, 63, 64, 65, 128, 1 << 40, -1 << 63, 1<<63 - 1} {
		for _, kids := range [][]impl.Node{nil, {a}, {a, a}} {
			wantsNode(t, node(kind, "", kids...), false)
			wantsNode(t, node(impl.NDesign, "", node(kind, "m", kids...)), false)
			wantsNode(t, inModule(node(kind, "a", kids...)), false)
			wantsNode(t, inBlock(node(kind, "", kids...)), false)
			wantsNode(t, checkOf(node(kind, "a", kids...)), false)
		}
	}
	for kind := impl.NModule; kind <= impl.NChoose; kind++ {
		wantsNode(t, node(kind, ""), false)
		wantsNode(t, node(kind, "a"), false)
	}
	wantsNode(t, impl.Node{}, false)
	wantsNode(t, impl.Node{Kind: impl.NDesign}, true)
	wantsNode(t, impl.Node{Kind: impl.NDesign, Kids: []impl.Node{}}, true)
	wantsNode(t, checkOf(impl.Node{Kind: impl.NName, Text: "a", Kids: []impl.Node{}}), true)
}

// within is a list of nodes of which each has the list itself as its kids.
func within(kind int, text string, size int) []impl.Node {
	list := make([]impl.Node, size)
	for i := range list {
		list[i] = impl.Node{Kind: kind, Text: text, Kids: list}
	}
	return list
}

func TestNodesWithinEachOtherWithoutEnd(t *testing.T) {
	for _, size := range []int{1, 2, 3, 1000} {
		wantsNode(t, checkOf(node(impl.NJoin, "", within(impl.NJoin, "", size)...)), false)
		wantsNode(t, checkOf(node(impl.NCall, "f", within(impl.NCall, "f", size)...)), false)
		wantsNode(t, inModule(node(impl.NWhen, "", node(impl.NName, "a"), node(impl.NItems, "", within(impl.NItems, "", size)...))), false)
		wantsNode(t, within(impl.NDesign, "", size)[0], false)
		wantsNode(t, impl.Node{Kids: within(0, "", size)}, false)
	}
	wantsNode(t, checkOf(within(impl.NUnary, "~", 1)[0]), false)
	wantsNode(t, checkOf(within(impl.NBinary, "+", 2)[0]), false)
	wantsNode(t, checkOf(within(impl.NChoose, "", 3)[0]), false)
	wantsNode(t, checkOf(chain(100000)), false)
}

// A few nodes that are shared are as many as the texts would have.
func TestNodesThatAreShared(t *testing.T) {
	n := node(impl.NName, "a")
	nodes := 1
	for depth := 4; depth < impl.MaxDeep; depth++ {
		n = node(impl.NBinary, "+", n, n)
		nodes = 2*nodes + 1
		wantsNode(t, checkOf(n), nodes+5 <= impl.MaxNodes)
	}
	row := make([]impl.Node, 1<<20)
	for i := range row {
		row[i] = node(impl.NName, "a")
	}
	wantsNode(t, checkOf(node(impl.NJoin, "", row...)), false)
	wantsNode(t, checkOf(node(impl.NJoin, "", row[:impl.MaxNodes-6]...)), true)
	wantsNode(t, checkOf(node(impl.NJoin, "", row[:impl.MaxNodes-5]...)), false)
	long := strings.Repeat("a", 1<<20)
	wantsNode(t, checkOf(node(impl.NName, long)), false)
	wantsNode(t, checkOf(node(impl.NNumber, strings.Repeat("0", 1<<20))), false)
	wantsNode(t, checkOf(node(impl.NUnary, long, n)), false)
}

// fullPrint is a design that is printed as so many tokens.
func fullPrint(t *testing.T, tokens int) impl.Node {
	n := inModule()
	module := &n.Kids[0]
	left := tokens - 5
	for left >= 200 {
		module.Kids = append(module.Kids, node(impl.NCheck, "c", chain(30)))
		left -= 95
	}
	if left%3 == 1 {
		module.Kids = append(module.Kids, node(impl.NWire, "a", node(impl.NType, "signed")))
		left -= 4
	} else if left%3 == 2 {
		module.Kids = append(module.Kids, node(impl.NReg, "a", node(impl.NType, ""), node(impl.NName, "b")))
		left -= 5
	}
	for ; left > 0; left -= 3 {
		module.Kids = append(module.Kids, node(impl.NWire, "a", node(impl.NType, "")))
	}
	if got := len(written(n, asPrinted)); got != tokens || !impl.NodeOK(n) {
		t.Fatalf("%d tokens, NodeOK %v", got, impl.NodeOK(n))
	}
	return n
}

func TestPrintDesignOfManyTokens(t *testing.T) {
	for _, tokens := range []int{5, 100, impl.MaxTokens - 1, impl.MaxTokens} {
		n := fullPrint(t, tokens)
		text, code := impl.PrintDesign(n)
		if code != impl.OK || text != printTold(n) {
			t.Errorf("%d tokens: code %d", tokens, code)
		}
		wantsDesign(t, text, n)
	}
	for _, tokens := range []int{impl.MaxTokens + 1, impl.MaxTokens + 2, impl.MaxTokens + 3, impl.MaxTokens + 500} {
		n := fullPrint(t, tokens)
		if text, code := impl.PrintDesign(n); text != "" || code != impl.ErrMany {
			t.Errorf("%d tokens: %d bytes, code %d", tokens, len(text), code)
		}
		// too many bytes besides
		n.Kids[0].Kids = append(n.Kids[0].Kids, longPrint(impl.MaxText * 2).Kids[0].Kids[2])
		if text, code := impl.PrintDesign(n); text != "" || code != impl.ErrMany {
			t.Errorf("%d tokens, many bytes: %d bytes, code %d", tokens, len(text), code)
		}
	}
}

// longPrint is a design that is printed as so many bytes, most of them those of
// numbers of like sizes: each has a blank behind it, and a comma with one
// between it and the next.
func longPrint(bytes int) impl.Node {
	left := bytes - len("module m ( ) check c = { } ;\nend\n")
	count := left/impl.MaxLine + 1
	digits := left - 3*count + 2
	join := node(impl.NJoin, "")
	for i := range count {
		join.Kids = append(join.Kids, node(impl.NNumber, strings.Repeat("0", (digits+i)/count)))
	}
	return checkOf(join)
}

func TestPrintDesignOfManyBytes(t *testing.T) {
	for bytes := impl.MaxText - 10; bytes <= impl.MaxText+10; bytes++ {
		n := longPrint(bytes)
		want := printTold(n)
		if len(want) != bytes || !impl.NodeOK(n) {
			t.Fatalf("%d bytes, not %d", len(want), bytes)
		}
		text, code := impl.PrintDesign(n)
		if bytes > impl.MaxText {
			if text != "" || code != impl.ErrLong {
				t.Errorf("%d bytes: %d, code %d", bytes, len(text), code)
			}
			continue
		}
		if code != impl.OK || text != want {
			t.Errorf("%d bytes: %d, code %d", bytes, len(text), code)
		}
		wantsDesign(t, text, n)
	}
	if text, code := impl.PrintDesign(longPrint(impl.MaxText * 50)); text != "" || code != impl.ErrLong {
		t.Errorf("%d bytes, code %d", len(text), code)
	}
}
