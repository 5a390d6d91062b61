package tests

import (
	"strings"
	"testing"

	"loop.example/g00031/impl"
)

type codeCase struct {
	text string
	code int
}

// holdItems holds the code of the scene with these items.
func holdItems(t *testing.T, cases []codeCase) {
	t.Helper()
	for _, c := range cases {
		if _, code := holdElaborated(t, theScene+c.text+" end", "top", nil); code != c.code {
			t.Errorf("%s: %d, want %d", c.text, code, c.code)
		}
	}
}

// holdDesigns holds the code of whole texts.
func holdDesigns(t *testing.T, cases []codeCase) {
	t.Helper()
	for _, c := range cases {
		if _, code := holdElaborated(t, c.text, "top", nil); code != c.code {
			t.Errorf("%s: %d, want %d", c.text, code, c.code)
		}
	}
}

func TestConstants(t *testing.T) {
	const least = "( 1 << 63 )"
	for expr, want := range map[string]int{
		"0":                         0,
		"2147483647":                2147483647,
		"4'b1010":                   10,
		"4'sb1010":                  -6,
		"64'hffffffffffffffff":      -1,
		"64'sh8000000000000000":     -1 << 63,
		"64'h7fffffffffffffff":      1<<63 - 1,
		"K":                         3,
		"J":                         -2,
		"E1":                        1,
		"~ 5":                       -6,
		"- 5":                       -5,
		"- " + least:                -1 << 63,
		"! 5":                       0,
		"! 0":                       1,
		"12 & 10":                   8,
		"12 | 10":                   14,
		"12 ^ 10":                   6,
		"K + J":                     1,
		"K - 5":                     -2,
		"K * J":                     -6,
		least + " - 1":              1<<63 - 1,
		least + " * 2":              0,
		least + " + " + least:       0,
		"- 7 / 2":                   -3,
		"- 7 % 2":                   -1,
		"7 % - 2":                   1,
		least + " / ( - 1 )":        -1 << 63,
		least + " % ( - 1 )":        0,
		"1 << 62":                   1 << 62,
		"3 << 63":                   -1 << 63,
		"- 1 >> 63":                 1,
		"- 1 >> 0":                  -1,
		"- 8 >> 1":                  1<<63 - 4,
		"- 8 >>> 1":                 -4,
		least + " >>> 63":           -1,
		least + " >> 63":            1,
		"8 >>> 2":                   2,
		"3 == 3":                    1,
		"3 != 3":                    0,
		"3 === 4":                   0,
		"4'sd15 === - 1":            1,
		"- 1 < 0":                   1,
		"0 <= 0":                    1,
		"0 > - 1":                   1,
		"64'hffffffffffffffff >= 0": 0,
		"3 < 3":                     0,
		"3 > 3":                     0,
		"4 <= 3":                    0,
		"3 >= 3":                    1,
		"2 && 4":                    1,
		"2 && 0":                    0,
		"0 || 0":                    0,
		"0 || - 1":                  1,
		"1 ? 5 : 6":                 5,
		"0 ? 5 : 6":                 6,
		"1 ? 5 : 1 / 0":             5,
		"0 ? nowhere : 6":           6,
		"1 ? 5 : a":                 5,
		"- 1 ? 2 : 1'bx":            2,
	} {
		f := flatOf(t, theScene+"const it = "+expr+" ; reg [ 64 ] it2 = it ; end")
		wants(t, expr, f.Signals[len(f.Signals)-1].Init, impl.BitsOf(want, 64))
	}
}

func TestWrongConstants(t *testing.T) {
	for expr, code := range map[string]int{
		"1'bx":                      impl.ErrRange,
		"4'b10z1":                   impl.ErrRange,
		"1 / 0":                     impl.ErrRange,
		"1 % ( 2 - 2 )":             impl.ErrRange,
		"1 << 64":                   impl.ErrRange,
		"1 >> 64":                   impl.ErrRange,
		"1 >>> - 1":                 impl.ErrRange,
		"0 << ( 1 << 63 )":          impl.ErrRange,
		"nowhere":                   impl.ErrName,
		"top":                       impl.ErrName,
		"it":                        impl.ErrName,
		"a":                         impl.ErrKind,
		"m":                         impl.ErrKind,
		"f":                         impl.ErrKind,
		"one ( )":                   impl.ErrKind,
		"nowhere ( )":               impl.ErrKind,
		"nowhere [ nowhere ]":       impl.ErrKind,
		"a [ 1 : 0 ]":               impl.ErrKind,
		"{ nowhere }":               impl.ErrKind,
		"{ 1 { nowhere } }":         impl.ErrKind,
		"signed ( nowhere )":        impl.ErrKind,
		"unsigned ( 1 )":            impl.ErrKind,
		"& nowhere":                 impl.ErrKind,
		"| 1":                       impl.ErrKind,
		"^ ( 1 / 0 )":               impl.ErrKind,
		"- nowhere":                 impl.ErrName,
		"~ ( & 1 )":                 impl.ErrKind,
		"nowhere + a":               impl.ErrName,
		"a + nowhere":               impl.ErrKind,
		"( 1 / 0 ) + nowhere":       impl.ErrRange,
		"1 / 0 * nowhere":           impl.ErrRange,
		"nowhere / 0":               impl.ErrName,
		"0 && nowhere":              impl.ErrName,
		"1 || a":                    impl.ErrKind,
		"nowhere ? a : 1'bx":        impl.ErrName,
		"1 ? a : 2":                 impl.ErrKind,
		"0 ? a : 1'bx":              impl.ErrRange,
		"1'bx ? 1 : 1":              impl.ErrRange,
		"nowhere << 64":             impl.ErrName,
		"1 << nowhere":              impl.ErrName,
		"( 1 << 64 ) ? nowhere : 1": impl.ErrRange,
	} {
		holdItems(t, []codeCase{{"const it = " + expr + " ;", code}})
	}
}

// A constant of more than 32 bits is one, but not in an expr.
func TestConstantsInExprs(t *testing.T) {
	holdItems(t, []codeCase{
		{"const it = 2147483647 ; check c1 = it ;", impl.OK},
		{"const it = 2147483647 + 1 ; check c1 = it ;", impl.ErrRange},
		{"const it = - 2147483647 - 1 ; check c1 = it ;", impl.OK},
		{"const it = - 2147483647 - 2 ; check c1 = it ;", impl.ErrRange},
		{"const it = 1 << 40 ; const more = it - ( 1 << 40 ) ; check c1 = more ;", impl.OK},
		{"const it = 1 << 40 ; check c1 = a + it ;", impl.ErrRange},
		{"const it = 1 << 40 ; check c1 = a [ it >> 38 ] ;", impl.OK},
		{"const it = 1 << 40 ; check c1 = a [ it ] ;", impl.ErrRange},
		{"const it = 1 << 40 ; check c1 = a [ b + it ] ;", impl.ErrRange},
		{"const it = 1 << 40 ; func f1 ( ) = it ;", impl.ErrRange},
		{"const it = 1 << 40 ; check c1 = 1 ? a : it ;", impl.ErrRange},
	})
}

func TestWrongTypes(t *testing.T) {
	holdItems(t, []codeCase{
		{"wire [ 64 ] v ; reg [ 64 ] v2 ; mem [ 64 ] v3 [ 1 ] ; func [ 64 ] v4 ( [ 64 ] p ) = p ;", impl.OK},
		{"wire [ 65 ] v ;", impl.ErrWidth},
		{"wire [ 0 ] v ;", impl.ErrWidth},
		{"wire [ - 1 ] v ;", impl.ErrWidth},
		{"wire signed [ 1 << 63 ] v ;", impl.ErrWidth},
		{"reg [ 65 ] v = nowhere ;", impl.ErrWidth},
		{"reg [ 0 ] a ;", impl.ErrWidth},
		{"reg a = nowhere ;", impl.ErrName},
		{"reg v = a ;", impl.ErrKind},
		{"reg v = v ;", impl.ErrName},
		{"mem [ 65 ] v [ 0 ] ;", impl.ErrWidth},
		{"mem [ 64 ] v [ 0 ] ;", impl.ErrRange},
		{"mem v [ 64 ] ;", impl.OK},
		{"mem v [ 65 ] ;", impl.ErrRange},
		{"mem v [ - 1 ] ;", impl.ErrRange},
		{"mem a [ 65 ] ;", impl.ErrRange},
		{"mem a [ 64 ] ;", impl.ErrTwice},
		{"wire [ nowhere ] a ;", impl.ErrName},
		{"wire [ a ] v ;", impl.ErrKind},
		{"func [ 65 ] v ( [ nowhere ] p ) = 1 ;", impl.ErrWidth},
		{"func v ( [ 65 ] p , [ nowhere ] o ) = 1 ;", impl.ErrWidth},
		{"func v ( p , p , [ 65 ] o ) = nowhere ;", impl.ErrWidth},
		{"func v ( p , p ) = nowhere ;", impl.ErrTwice},
		{"func v ( a ) = nowhere ;", impl.ErrTwice},
		{"func v ( p ) = nowhere ;", impl.ErrName},
		{"func a ( p ) = nowhere ;", impl.ErrName},
		{"func a ( p ) = p ;", impl.ErrTwice},
		{"func v ( v ) = v ;", impl.OK},
		{"func v ( p ) = v ( p ) ;", impl.ErrName},
		{"func v ( p ) = p [ 1 ] ;", impl.ErrRange},
		{"func v ( p ) = p [ 0 : 1 ] ;", impl.ErrRange},
		{"func v ( p ) = p ( ) ;", impl.ErrKind},
		{"func v ( p ) = m ;", impl.ErrKind},
		{"func v ( p ) = { 65 { p } } ;", impl.ErrRange},
		{"func v ( p ) = p ; check c1 = p ;", impl.ErrName},
		{"func v ( p ) = p ; wire p ; func v2 ( o ) = p ;", impl.OK},
		{"func v ( p ) = p ; func v2 ( p ) = v ( p ) ;", impl.OK},
	})
}

func TestWrongExprs(t *testing.T) {
	for expr, code := range map[string]int{
		"nowhere":                               impl.ErrName,
		"top":                                   impl.ErrName,
		"m":                                     impl.ErrKind,
		"f":                                     impl.ErrKind,
		"nowhere [ 0 ]":                         impl.ErrName,
		"K [ nowhere ]":                         impl.ErrKind,
		"f [ 0 ]":                               impl.ErrKind,
		"nowhere [ m ]":                         impl.ErrName,
		"a [ nowhere ]":                         impl.ErrName,
		"a [ m ]":                               impl.ErrKind,
		"a [ 8 ]":                               impl.ErrRange,
		"a [ - 1 ]":                             impl.ErrRange,
		"a [ 1'bx ]":                            impl.ErrRange,
		"a [ 1 / 0 ]":                           impl.ErrRange,
		"a [ b / 0 ]":                           impl.OK,
		"a [ 8 + 0 * b ]":                       impl.OK,
		"a [ 1 ? 0 : nowhere ]":                 impl.ErrName,
		"a [ 1 ? 0 : b ]":                       impl.OK,
		"a [ 1 ? 9 : b ]":                       impl.OK,
		"a [ & 7'd9 ]":                          impl.OK,
		"a [ { 9 } ]":                           impl.OK,
		"a [ signed ( 9 ) ]":                    impl.OK,
		"a [ 0 - K ]":                           impl.ErrRange,
		"m [ 6 ]":                               impl.ErrRange,
		"m [ 5 ]":                               impl.OK,
		"m [ - 1 ]":                             impl.ErrRange,
		"m [ 7 : 8 ]":                           impl.ErrKind,
		"m [ nowhere : 0 ]":                     impl.ErrKind,
		"nowhere [ a : 0 ]":                     impl.ErrName,
		"K [ 1 : 0 ]":                           impl.ErrKind,
		"f [ 1 : 0 ]":                           impl.ErrKind,
		"a [ 8 : 0 ]":                           impl.ErrRange,
		"a [ 0 : 1 ]":                           impl.ErrRange,
		"a [ 0 : - 1 ]":                         impl.ErrRange,
		"a [ 8 : nowhere ]":                     impl.ErrName,
		"a [ nowhere : b ]":                     impl.ErrName,
		"a [ b : nowhere ]":                     impl.ErrKind,
		"a [ 1 : b ]":                           impl.ErrKind,
		"a [ ( 1 << 63 ) : 0 ]":                 impl.ErrRange,
		"a [ 7 : ( 1 << 63 ) ]":                 impl.ErrRange,
		"nowhere ( nowhere )":                   impl.ErrName,
		"a ( )":                                 impl.ErrKind,
		"K ( nowhere )":                         impl.ErrKind,
		"f ( nowhere )":                         impl.ErrKind,
		"f ( nowhere , m , a )":                 impl.ErrKind,
		"f ( nowhere , m )":                     impl.ErrName,
		"f ( m , nowhere )":                     impl.ErrKind,
		"one ( a )":                             impl.ErrKind,
		"{ nowhere , m }":                       impl.ErrName,
		"{ a , a , a , a , a , a , a , a }":     impl.OK,
		"{ a , a , a , a , a , a , a , a , c }": impl.ErrWidth,
		"{ 64'd1 , 64'd1 , nowhere }":           impl.ErrName,
		"{ 8 { a } }":                           impl.OK,
		"{ 9 { a } }":                           impl.ErrWidth,
		"{ 64 { c } }":                          impl.OK,
		"{ 65 { c } }":                          impl.ErrRange,
		"{ 0 { c } }":                           impl.ErrRange,
		"{ - 1 { c } }":                         impl.ErrRange,
		"{ a { nowhere } }":                     impl.ErrKind,
		"{ 64 { nowhere } }":                    impl.ErrName,
		"{ ( 1 << 58 ) { a } }":                 impl.ErrRange,
		"signed ( m )":                          impl.ErrKind,
		"unsigned ( nowhere )":                  impl.ErrName,
		"! nowhere":                             impl.ErrName,
		"- m":                                   impl.ErrKind,
		"m + nowhere":                           impl.ErrKind,
		"nowhere + m":                           impl.ErrName,
		"a && m":                                impl.ErrKind,
		"a / 0":                                 impl.OK,
		"a << 64":                               impl.OK,
		"m ? nowhere : a":                       impl.ErrKind,
		"1 ? a : nowhere":                       impl.ErrName,
		"0 ? m : nowhere":                       impl.ErrKind,
	} {
		holdItems(t, []codeCase{{"check c1 = " + expr + " ;", code}})
	}
}

func TestVisibleNames(t *testing.T) {
	holdItems(t, []codeCase{
		{"wire K ;", impl.ErrTwice},
		{"wire f ;", impl.ErrTwice},
		{"const a = nowhere ;", impl.ErrName},
		{"const a = 1 ;", impl.ErrTwice},
		{"enum k1 , k2 , k1 ;", impl.ErrTwice},
		{"enum a ;", impl.ErrTwice},
		{"enum k1 , k2 ; const k3 = k2 ;", impl.OK},
		{"wire top ; wire nowhere ;", impl.OK},
		{"check c1 = v ; wire v ;", impl.ErrName},
		{"wire v ; check v = v ;", impl.OK},
		{"check v = a ; wire v ;", impl.OK},
		{"check v = a ; check v = nowhere ;", impl.ErrTwice},
		{"when 1 { wire v ; assign v = a ; } check c1 = v ;", impl.ErrName},
		{"when 1 { const v = 1 ; } when 1 { const v = 2 ; }", impl.OK},
		{"when 1 { const v = 1 ; } const v = 2 ;", impl.OK},
		{"const v = 1 ; when 1 { const v = 2 ; }", impl.ErrTwice},
		{"const v = 1 ; when 0 { const v = 2 ; check c1 = nowhere ; } else { wire v2 ; }", impl.OK},
		{"when 1 { wire v ; } when 1 { wire v ; }", impl.ErrTwice},
		{"when 1 { wire v ; } else { wire v ; }", impl.OK},
		{"when 1 { wire v ; } wire v ;", impl.ErrTwice},
		{"when 1 { when 1 { wire v ; } check c1 = v ; }", impl.ErrName},
		{"when 1 { wire v ; when 1 { check c1 = v ; } }", impl.OK},
		{"when nowhere { wire a ; }", impl.ErrName},
		{"when a { wire a ; }", impl.ErrKind},
		{"when 0 { wire a ; } else { check c1 = nowhere ; }", impl.ErrName},
		{"when 0 { wire a ; check c1 = nowhere ; }", impl.OK},
		{"when - 5 { wire a ; }", impl.ErrTwice},
		{"for i = 0 .. 1 { wire v ; } for i = 0 .. 1 { reg v ; }", impl.ErrTwice},
		{"for i = 0 .. 1 { wire v ; } for i = 2 .. 3 { reg v ; }", impl.OK},
		{"for i = 0 .. 1 { wire v ; } check c1 = v ;", impl.ErrName},
		{"for i = 0 .. 1 { check c1 = i ; } check c1 = i ;", impl.ErrName},
		{"for i = 0 .. 1 { check c1 = a [ i ] ; } check c1 = a ;", impl.OK},
		{"for i = 0 .. 0 { wire i ; }", impl.ErrTwice},
		{"for i = 0 .. 0 { for i = 0 .. 0 { } }", impl.ErrTwice},
		{"for i = 0 .. 0 { for i = 1 .. 0 { } }", impl.OK},
		{"for i = 0 .. 1 { for j = i .. 1 { const v = i + j ; } }", impl.OK},
		{"for a = 0 .. 0 { }", impl.ErrTwice},
		{"for a = 1 .. 0 { check c1 = nowhere ; }", impl.OK},
		{"for i = 0 .. i { }", impl.ErrName},
		{"for i = nowhere .. a { }", impl.ErrName},
		{"for i = a .. nowhere { }", impl.ErrKind},
		{"for i = - 1 .. nowhere { }", impl.ErrName},
		{"for i = - 1 .. 0 { }", impl.ErrRange},
		{"for i = 0 .. - 1 { }", impl.ErrRange},
		{"for i = 1000001 .. 0 { }", impl.ErrRange},
		{"for i = 1000000 .. 1000000 { wire v ; }", impl.OK},
		{"for i = 1000000 .. 1000001 { }", impl.ErrRange},
		{"for i = 0 .. 5000 { wire nowhere2 ; check c1 = nowhere ; }", impl.ErrName},
		{"for i = 0 .. 1 { const v = 1 / ( 1 - i ) ; }", impl.ErrRange},
		{"reg g1 ; comb { for i = 0 .. 1 { g1 = a [ i ] ; } for i = 0 .. 0 { for i = 0 .. 0 { } } }", impl.ErrTwice},
		{"comb { for a = 0 .. 0 { } }", impl.ErrTwice},
		{"comb { for i = 0 .. 0 { } r = i ; }", impl.ErrName},
		{"comb { for i = 0 .. 8 { r = a [ i ] ; } }", impl.ErrRange},
		{"comb { for i = 0 .. 1000001 { } }", impl.ErrRange},
	})
}

func TestWrongStatements(t *testing.T) {
	holdItems(t, []codeCase{
		{"assign nowhere = m ;", impl.ErrName},
		{"assign a = nowhere ;", impl.ErrKind},
		{"assign r = nowhere ;", impl.ErrKind},
		{"assign m [ 0 ] = nowhere ;", impl.ErrKind},
		{"assign K = 1 ;", impl.ErrKind},
		{"assign f = 1 ;", impl.ErrKind},
		{"assign y = nowhere ;", impl.ErrName},
		{"assign y [ 6 ] = nowhere ;", impl.ErrRange},
		{"assign y [ 6 : 0 ] = nowhere ;", impl.ErrRange},
		{"assign y [ a ] = nowhere ;", impl.ErrKind},
		{"assign y [ nowhere ] = 1 ;", impl.ErrName},
		{"assign y [ m ] = nowhere ;", impl.ErrKind},
		{"assign a [ nowhere ] = 1 ;", impl.ErrKind},
		{"assign y [ 5 : a ] = nowhere ;", impl.ErrKind},
		{"comb { y = nowhere ; }", impl.ErrKind},
		{"comb { w = 1 ; }", impl.ErrKind},
		{"comb { a = 1 ; }", impl.ErrKind},
		{"comb { K = 1 ; }", impl.ErrKind},
		{"comb { m = nowhere ; }", impl.ErrKind},
		{"comb { m [ 1 : 0 ] = nowhere ; }", impl.ErrKind},
		{"comb { m [ 6 ] = nowhere ; }", impl.ErrRange},
		{"comb { m [ nowhere ] = m ; }", impl.ErrName},
		{"comb { r [ 8 ] = nowhere ; }", impl.ErrRange},
		{"comb { r [ nowhere ] = m ; }", impl.ErrName},
		{"comb { r [ b ] = m ; }", impl.ErrKind},
		{"comb { r [ 0 : 1 ] = nowhere ; }", impl.ErrRange},
		{"comb { nowhere = m ; }", impl.ErrName},
		{"comb { r = m ; }", impl.ErrKind},
		{"comb { nowhere <= 1 ; }", impl.ErrKind},
		{"comb { r <= 1 ; }", impl.ErrKind},
		{"comb { if 1 { r = 1 ; } else { r <= 1 ; } }", impl.ErrKind},
		{"comb { wait nowhere ; }", impl.ErrKind},
		{"comb { stop ; }", impl.ErrKind},
		{"on c { wait nowhere ; }", impl.ErrKind},
		{"on c { stop ; }", impl.ErrKind},
		{"on c { r <= nowhere ; }", impl.ErrName},
		{"on c { y <= 1 ; }", impl.ErrKind},
		{"on nowhere { stop ; }", impl.ErrName},
		{"on a { r = nowhere ; }", impl.ErrKind},
		{"on m { }", impl.ErrKind},
		{"mem m1 [ 1 ] ; on m1 { }", impl.ErrKind},
		{"on K { }", impl.ErrKind},
		{"on f { }", impl.ErrKind},
		{"wire [ 1 ] v ; on v { }", impl.OK},
		{"reg v ; on v { } start { v = 1 ; }", impl.OK},
		{"start { wait nowhere ; }", impl.ErrName},
		{"start { wait a ; }", impl.ErrKind},
		{"start { wait - 1 ; }", impl.ErrRange},
		{"start { wait 1000000 ; }", impl.OK},
		{"start { wait 1000001 ; }", impl.ErrRange},
		{"start { y = 1 ; }", impl.ErrKind},
		{"comb { if nowhere { r = m ; } }", impl.ErrName},
		{"comb { if m { r = nowhere ; } }", impl.ErrKind},
		{"comb { if a { r = m ; } else { r = nowhere ; } }", impl.ErrKind},
		{"comb { if a { } else if nowhere { r = m ; } }", impl.ErrName},
		{"comb { case nowhere { m : { } } }", impl.ErrName},
		{"comb { case m { nowhere : { } } }", impl.ErrKind},
		{"comb { case a { a : { r = m ; } nowhere : { } } }", impl.ErrName},
		{"comb { case a { a , m , nowhere : { } } }", impl.ErrKind},
		{"comb { case a { a : { r = m ; } b : { r = nowhere ; } } }", impl.ErrKind},
		{"comb { case a { b : { } default : { r = nowhere ; } } }", impl.ErrName},
		{"comb { case nowhere { } }", impl.ErrName},
		{"comb { case nowhere { default : { r = m ; } } }", impl.ErrName},
		{"comb { for i = 0 .. 0 { r <= i ; } }", impl.ErrKind},
	})
}

func TestWrongUses(t *testing.T) {
	const leaf = "module leaf # ( N = 2 ) ( in [ N ] d , out q , in e , out p ) wire w ; end "
	uses := func(text string, code int) codeCase {
		return codeCase{leaf + theScene + text + " end", code}
	}
	holdDesigns(t, []codeCase{
		uses("use leaf u ( . d ( a ) , . e ( c ) ) ;", impl.OK),
		uses("use leaf u ( . q ( y [ 0 ] ) , . p ( w [ 3 : 3 ] ) , . e ( 1 ) , . d ( m [ 0 ] ) ) ;", impl.OK),
		uses("use none u ( . none ( a ) ) ;", impl.ErrName),
		uses("use leaf u ( . none ( a ) , . d ( a ) , . d ( a ) ) ;", impl.ErrName),
		uses("use leaf u ( . d ( a ) , . d ( a ) , . none ( a ) ) ;", impl.ErrTwice),
		uses("use leaf u ( . N ( a ) ) ;", impl.ErrName),
		uses("use leaf u ( . w ( a ) ) ;", impl.ErrName),
		uses("use leaf u # ( N = nowhere ) ( . none ( a ) ) ;", impl.ErrName),
		uses("use leaf u # ( N = a ) ( . d ( a ) , . d ( a ) ) ;", impl.ErrTwice),
		uses("use leaf u # ( M = a , N = nowhere ) ( ) ;", impl.ErrKind),
		uses("use leaf u # ( M = 1 , N = 1 / 0 ) ( ) ;", impl.ErrRange),
		uses("use leaf u # ( M = 1 , N = 1 , N = 2 ) ( ) ;", impl.ErrName),
		uses("use leaf u # ( N = 1 , N = 2 , M = 1 ) ( ) ;", impl.ErrTwice),
		uses("use leaf u # ( N = 65 ) ( ) ;", impl.ErrWidth),
		uses("use leaf u # ( N = K ) ( . d ( a ) , . e ( a ) ) ;", impl.OK),
		uses("use leaf u ( ) ;", impl.ErrMissing),
		uses("use leaf u ( . d ( nowhere ) ) ;", impl.ErrName),
		uses("use leaf u ( . d ( a ) , . q ( a ) ) ;", impl.ErrKind),
		uses("use leaf u ( . d ( a ) ) ;", impl.ErrMissing),
		uses("use leaf u ( . d ( a ) , . e ( m ) , . q ( nowhere ) ) ;", impl.ErrName),
		uses("use leaf u ( . d ( a ) , . e ( m ) , . p ( nowhere ) ) ;", impl.ErrKind),
		uses("use leaf u ( . d ( a ) , . e ( a ) , . q ( y + nowhere ) ) ;", impl.ErrKind),
		uses("use leaf u ( . d ( a ) , . e ( a ) , . q ( { y } ) ) ;", impl.ErrKind),
		uses("use leaf u ( . d ( a ) , . e ( a ) , . q ( 1 ) ) ;", impl.ErrKind),
		uses("use leaf u ( . d ( a ) , . e ( a ) , . q ( r ) ) ;", impl.ErrKind),
		uses("use leaf u ( . d ( a ) , . e ( a ) , . q ( m [ 0 ] ) ) ;", impl.ErrKind),
		uses("use leaf u ( . d ( a ) , . e ( a ) , . q ( y [ a ] ) ) ;", impl.ErrKind),
		uses("use leaf u ( . d ( a ) , . e ( a ) , . q ( y [ nowhere ] ) ) ;", impl.ErrName),
		uses("use leaf u ( . d ( a ) , . e ( a ) , . q ( y [ 6 ] ) ) ;", impl.ErrRange),
		uses("use leaf u ( . d ( a ) , . e ( a ) , . q ( y [ 6 : 0 ] ) ) ;", impl.ErrRange),
		uses("use leaf u ( . d ( a ) , . e ( a ) , . q ( f ( a , a ) ) ) ;", impl.ErrKind),
		uses("use leaf u ( . d ( a ) , . e ( a ) ) ; use leaf u ( . d ( a ) , . e ( a ) ) ;", impl.ErrTwice),
		uses("use leaf a ( . d ( a ) , . e ( a ) ) ; wire u ; use leaf u ( . d ( u ) , . e ( a ) ) ;", impl.OK),
		uses("use leaf u ( . d ( a ) , . e ( a ) ) ; wire u ;", impl.OK),
		uses("use leaf u ( . d ( a ) , . e ( a ) ) ; check c1 = u ;", impl.ErrName),
		uses("for u = 0 .. 0 { wire d ; } use leaf u0 ( . d ( a ) , . e ( a ) ) ;", impl.ErrTwice),
	})
}

// Nothing of a module is visible in another one.
func TestModulesApart(t *testing.T) {
	holdDesigns(t, []codeCase{
		{"module leaf ( in d ) check c = x ; end module top ( in x ) use leaf u ( . d ( x ) ) ; end", impl.ErrName},
		{"module leaf ( in d ) const x = 1 ; end module top ( in x ) use leaf u ( . d ( x ) ) ; end", impl.OK},
		{"module leaf ( in d ) const x = 1 ; end module top ( in d ) use leaf u ( . d ( x ) ) ; end", impl.ErrName},
		{"module leaf ( in d ) assign d = 1 ; end module top ( in d ) use leaf u ( . d ( d ) ) ; end", impl.OK},
		{"module top ( in d ) assign d = 1 ; end", impl.ErrKind},
		{"module top ( in a , out a ) check c = nowhere ; end", impl.ErrTwice},
		{"module top # ( a = 1 ) ( in [ a ] a ) end", impl.ErrTwice},
		{"module top # ( a = 1 , a = nowhere ) ( ) end", impl.ErrName},
		{"module top # ( a = 1 , a = 2 ) ( in [ 65 ] b ) end", impl.ErrTwice},
		{"module top # ( a = b , b = 2 ) ( ) end", impl.ErrName},
		{"module top # ( a = 1 ) ( in [ a + b ] b ) end", impl.ErrName},
		{"module top # ( a = 1 ) ( in [ a ] b , in [ b ] c ) end", impl.ErrKind},
		{"module top ( in [ 65 ] a , in [ nowhere ] b ) end", impl.ErrWidth},
		{"module top ( ) end module top ( ) end", impl.ErrTwice},
		{"module other ( in a , in a ) check c = nowhere ; end module top ( ) end", impl.OK},
		{"module other ( ) end", impl.ErrMissing},
		{"module other ( ) end module other ( ) end", impl.ErrTwice},
		{"", impl.ErrMissing},
		{"module top # ( N = 3 ) ( out [ 2 ] y ) when N { use top u # ( N = N - 1 ) ( . y ( y ) ) ; } assign y = N ; end", impl.OK},
		{"module top ( ) use top u ( ) ; end", impl.ErrDeep},
	})
}

// The first fault of two is told, wherever they stand.
func TestFirstFaultIsTold(t *testing.T) {
	faults := []codeCase{
		{"wire a ;", impl.ErrTwice},
		{"wire [ 65 ] v1 ;", impl.ErrWidth},
		{"check c1 = nowhere ;", impl.ErrName},
		{"check c2 = m ;", impl.ErrKind},
		{"mem v2 [ 65 ] ;", impl.ErrRange},
		{"for i = 0 .. 4096 { }", impl.ErrMany},
		{"use leaf u ( ) ;", impl.ErrMissing},
		{"use deep u2 ( ) ;", impl.ErrDeep},
	}
	modules, long := longPlace("wire ab ;", 1000)
	faults = append(faults, codeCase{long, impl.ErrLong})
	modules += "module leaf ( in d ) end module deep ( ) use deep u ( ) ; end "
	for _, first := range faults {
		for _, second := range faults {
			holdDesigns(t, []codeCase{
				{modules + theScene + first.text + " " + second.text + " end", first.code},
				{modules + theScene + "when 1 { " + first.text + " } " + second.text + " end", first.code},
				{modules + theScene + "when 0 { " + second.text + " } else { " + first.text + " } end", first.code},
			})
		}
	}
}

func TestWrongArguments(t *testing.T) {
	good, _, _ := impl.ParseDesign("module top # ( A = 1 ) ( ) end")
	twice, _, _ := impl.ParseDesign("module m ( ) end module m ( ) end")
	within := impl.Node{Kind: impl.NDesign, Kids: make([]impl.Node, 1)}
	within.Kids[0] = within
	for _, c := range []struct {
		what   string
		n      impl.Node
		top    string
		params []impl.Param
		code   int
	}{
		{"good", good, "top", nil, impl.OK},
		{"nothing", impl.Node{}, "top", nil, impl.ErrBad},
		{"a module", good.Kids[0], "top", nil, impl.ErrBad},
		{"within itself", within, "top", nil, impl.ErrBad},
		{"empty", impl.Node{Kind: impl.NDesign}, "top", nil, impl.ErrMissing},
		{"other top", good, "to", nil, impl.ErrMissing},
		{"empty top", good, "", nil, impl.ErrMissing},
		{"longest top", good, strings.Repeat("t", impl.MaxText), nil, impl.ErrMissing},
		{"long top", good, strings.Repeat("t", impl.MaxText+1), nil, impl.ErrLong},
		{"long top of nothing", impl.Node{}, strings.Repeat("t", impl.MaxText+1), nil, impl.ErrLong},
		{"two", twice, "top", nil, impl.ErrTwice},
		{"most params", good, "top", make([]impl.Param, impl.MaxList), impl.ErrName},
		{"many params", good, "top", make([]impl.Param, impl.MaxList+1), impl.ErrLong},
		{"many params of nothing", impl.Node{}, "", make([]impl.Param, impl.MaxList+1), impl.ErrLong},
		{"param twice", good, "top", []impl.Param{{Name: "A"}, {Name: "A"}}, impl.ErrTwice},
		{"a long name", good, "top", []impl.Param{{Name: strings.Repeat("A", 100000)}}, impl.ErrName},
	} {
		flat, code := impl.Elaborate(c.n, c.top, c.params)
		if code != c.code || len(flat.Signals) != 0 || len(flat.Procs) != 0 {
			t.Errorf("%s: %v %d, want %d", c.what, flat, code, c.code)
		}
	}
}
