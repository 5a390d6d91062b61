package tests

import (
	"fmt"
	"strings"
	"testing"

	"loop.example/g00031/impl"
)

func TestElabLimits(t *testing.T) {
	got := []int{impl.MaxSignals, impl.MaxProcs, impl.MaxDepth, impl.MaxUses, impl.MaxInner, impl.MaxTurns, impl.MaxSize, impl.MaxTree}
	for i, want := range []int{256, 256, 64, 128, 8, 4096, 16384, 400} {
		if got[i] != want {
			t.Errorf("limit %d: %d, want %d", i, got[i], want)
		}
	}
}

// longPlace is modules, and an item that uses them, so that other items stand at a place whose prefix has so many bytes. (No text has enough loops within each other.)
func longPlace(items string, prefix int) (modules, item string) {
	var sizes []int
	for left := prefix; left > 0; left -= sizes[len(sizes)-1] {
		size := min(left, 25)
		if rest := left - size; rest > 0 && rest < 5 {
			size -= 5
		}
		sizes = append(sizes, size)
	}
	item = items
	for i := len(sizes) - 1; i >= 0; i-- {
		if i%12 == 11 {
			modules += fmt.Sprintf("module l%d ( ) %s end ", i, item)
			item = fmt.Sprintf("use l%d %s%02d ( ) ;", i, strings.Repeat("u", sizes[i]-3), i)
		} else {
			item = fmt.Sprintf("for %s%02d = 0 .. 0 { %s }", strings.Repeat("n", sizes[i]-4), i, item)
		}
	}
	return modules, item
}

func longDesign(items string, prefix int) string {
	modules, item := longPlace(items, prefix)
	return modules + "module top ( ) " + item + " end"
}

func longest(f impl.Flat) int {
	size := 0
	for _, s := range f.Signals {
		size = max(size, len(s.Name))
	}
	for _, p := range f.Procs {
		size = max(size, len(p.Name))
	}
	return size
}

func TestMaxLine(t *testing.T) {
	for _, item := range []string{"wire ab ;", "reg ab ;", "mem ab [ 2 ] ;", "check ab = 1 ;"} {
		for _, prefix := range []int{500, 997, 998, 999, 1000, 1001, 1020} {
			flat, code := holdElaborated(t, longDesign(item, prefix), "top", nil)
			if want := numberIf(prefix > 998) * impl.ErrLong; code != want {
				t.Errorf("%s behind %d: %d, want %d", item, prefix, code, want)
			}
			if code == impl.OK && longest(flat) != prefix+2 {
				t.Errorf("%s behind %d: %d bytes", item, prefix, longest(flat))
			}
		}
	}
}

// What is looked for ahead of a name's length, and behind it.
func TestLongNamesInOrder(t *testing.T) {
	for _, c := range []codeCase{
		{"check ab = nowhere ;", impl.ErrLong},
		{"wire [ 65 ] ab ;", impl.ErrWidth},
		{"const ab = 1 ; wire ab ;", impl.ErrTwice},
		{"const ab = 1 ; enum cd ; func ef ( gh ) = gh ; comb { }", impl.OK},
		{"use s u ( ) ;", impl.ErrLong},
		{"for i = 0 .. 255 { wire ab ; }", impl.ErrLong},
	} {
		holdDesigns(t, []codeCase{{"module s ( in a ) end " + longDesign(c.text, 1000), c.code}})
	}
	const full = "for f = 0 .. 255 { wire v ; } "
	for _, c := range []struct {
		prefix, code int
	}{{998, impl.ErrMany}, {999, impl.ErrLong}} {
		modules, item := longPlace("wire ab ;", c.prefix)
		holdDesigns(t, []codeCase{{modules + "module top ( ) " + full + item + " end", c.code}})
	}
}

func TestMaxSignals(t *testing.T) {
	for _, c := range []codeCase{
		{"module top ( ) for i = 0 .. 255 { wire v ; } end", impl.OK},
		{"module top ( ) for i = 0 .. 255 { wire v ; } const k = 1 ; enum e ; func f ( p ) = p ; end", impl.OK},
		{"module top ( ) for i = 0 .. 256 { wire v ; } end", impl.ErrMany},
		{"module top ( in a , out b ) for i = 0 .. 253 { reg v ; } end", impl.OK},
		{"module top ( in a , out b ) for i = 0 .. 253 { reg v ; } mem m [ 64 ] ; end", impl.ErrMany},
		{"module top ( in a ) for i = 0 .. 254 { wire v ; } wire a ; end", impl.ErrTwice},
		{"module top ( in a ) for i = 0 .. 254 { wire v ; } for i = 0 .. 0 { wire v ; } end", impl.ErrTwice},
		{"module top ( in a ) for i = 0 .. 254 { wire v ; } wire [ 65 ] b ; end", impl.ErrWidth},
		{"module s ( in a , in b ) end module top ( in a ) for i = 0 .. 126 { use s u ( . a ( a ) , . b ( a ) ) ; } end", impl.OK},
		{"module s ( in a , in b ) end module top ( in a ) for i = 0 .. 126 { use s u ( . a ( a ) , . b ( a ) ) ; } wire w ; end", impl.OK},
		{"module s ( in a , in b ) end module top ( in a ) for i = 0 .. 127 { use s u ( . a ( a ) , . b ( a ) ) ; } end", impl.ErrMany},
	} {
		holdDesigns(t, []codeCase{c})
	}
	ports := strings.Repeat("in p%d , ", 256)
	numbers := make([]any, 256)
	for i := range numbers {
		numbers[i] = i
	}
	ports = fmt.Sprintf(ports, numbers...)
	holdDesigns(t, []codeCase{
		{"module top ( " + strings.TrimSuffix(ports, ", ") + " ) end", impl.OK},
		{"module top ( " + ports + " in q ) end", impl.ErrMany},
	})
}

func TestMaxProcs(t *testing.T) {
	for _, c := range []codeCase{
		{"for i = 0 .. 255 { check c1 = c ; }", impl.OK},
		{"for i = 0 .. 256 { check c1 = c ; }", impl.ErrMany},
		{"for i = 0 .. 255 { assign y = a ; } assign y = nowhere ;", impl.ErrName},
		{"for i = 0 .. 255 { assign y = a ; } assign y = a ;", impl.ErrMany},
		{"for i = 0 .. 255 { comb { } } comb { r = m ; }", impl.ErrKind},
		{"for i = 0 .. 255 { comb { } } comb { }", impl.ErrMany},
		{"for i = 0 .. 255 { on c { } } on a { }", impl.ErrKind},
		{"for i = 0 .. 255 { on c { } } on c { }", impl.ErrMany},
		{"for i = 0 .. 255 { start { } } start { wait - 1 ; }", impl.ErrRange},
		{"for i = 0 .. 255 { start { } } start { }", impl.ErrMany},
		{"for i = 0 .. 255 { comb { } } check c1 = m ;", impl.ErrKind},
		{"for i = 0 .. 255 { comb { } } check c1 = c ;", impl.ErrMany},
		{"for i = 0 .. 254 { comb { } } check c1 = c ; check c1 = c ;", impl.ErrTwice},
		{"for i = 0 .. 255 { comb { } } wire v ;", impl.OK},
	} {
		holdItems(t, []codeCase{c})
	}
	holdDesigns(t, []codeCase{
		{"module s ( in d , out q ) end module top ( in a , out y ) for i = 0 .. 253 { comb { } } use s u ( . d ( a ) , . q ( y ) ) ; end", impl.OK},
		{"module s ( in d , out q ) end module top ( in a , out y ) for i = 0 .. 254 { comb { } } use s u ( . d ( a ) , . q ( y ) ) ; end", impl.ErrMany},
		{"module s ( in d , out q ) end module top ( in a , out y ) for i = 0 .. 254 { comb { } } use s u ( . d ( a ) ) ; end", impl.OK},
		{"module s ( in d , out q ) end module top ( in a , out y ) for i = 0 .. 254 { comb { } } use s u ( . d ( a ) , . q ( a ) ) ; end", impl.ErrKind},
		{"module s ( in d , in q ) end module top ( in a , out y ) for i = 0 .. 254 { comb { } } use s u ( . d ( a ) ) ; end", impl.ErrMissing},
		{"module s ( in d , in q ) end module top ( in a , out y ) for i = 0 .. 255 { comb { } } use s u ( . d ( a ) ) ; end", impl.ErrMany},
	})
}

func TestMaxUses(t *testing.T) {
	holdDesigns(t, []codeCase{
		{"module s ( ) end module top ( ) for i = 0 .. 127 { use s u ( ) ; } end", impl.OK},
		{"module s ( ) end module top ( ) for i = 0 .. 128 { use s u ( ) ; } end", impl.ErrMany},
		{"module s ( ) end module top ( ) for i = 0 .. 127 { use s u ( ) ; } use none u ( ) ; end", impl.ErrName},
		{"module s ( ) end module top ( ) for i = 0 .. 127 { use s u ( ) ; } use s u ( . x ( y ) ) ; end", impl.ErrMany},
		{"module s ( ) end module m ( ) use s a ( ) ; use s b ( ) ; use s c ( ) ; end module top ( ) for i = 0 .. 31 { use m u ( ) ; } end", impl.OK},
		{"module s ( ) end module m ( ) use s a ( ) ; use s b ( ) ; use s c ( ) ; end module top ( ) for i = 0 .. 31 { use m u ( ) ; } use s u ( ) ; end", impl.ErrMany},
	})
}

func TestMaxInner(t *testing.T) {
	const deep = "module top # ( N = %d ) ( ) when N > 1 { use top u # ( N = N - 1 ) ( ) ; } else { %s } end"
	holdDesigns(t, []codeCase{
		{fmt.Sprintf(deep, 7, ""), impl.OK},
		{fmt.Sprintf(deep, 8, ""), impl.OK},
		{fmt.Sprintf(deep, 9, ""), impl.ErrDeep},
		{fmt.Sprintf(deep, 8, "use none u ( ) ;"), impl.ErrName},
		{fmt.Sprintf(deep, 8, "use top u # ( M = nowhere ) ( . x ( y ) ) ;"), impl.ErrDeep},
		// use 129 is the one that is too deep as well
		{"module s # ( N = 8 ) ( ) when N > 1 { use s u # ( N = N - 1 ) ( ) ; } end module top ( ) for i = 0 .. 17 { use s u # ( N = 7 ) ( ) ; } use s v # ( N = 2 ) ( ) ; use s w ( ) ; end", impl.ErrMany},
		{"module s # ( N = 8 ) ( ) when N > 1 { use s u # ( N = N - 1 ) ( ) ; } end module top ( ) for i = 0 .. 16 { use s u # ( N = 7 ) ( ) ; } use s v # ( N = 1 ) ( ) ; use s w ( ) ; end", impl.ErrDeep},
	})
}

func TestMaxTurns(t *testing.T) {
	holdItems(t, []codeCase{
		{"for i = 0 .. 4095 { }", impl.OK},
		{"for i = 0 .. 4096 { }", impl.ErrMany},
		{"for i = 0 .. 1000000 { }", impl.ErrMany},
		{"for i = 1 .. 4095 { } for i = 5 .. 5 { }", impl.OK},
		{"for i = 1 .. 4095 { } for i = 5 .. 6 { }", impl.ErrMany},
		{"for i = 0 .. 4095 { } for a = 1 .. 0 { }", impl.OK},
		{"for i = 0 .. 4095 { } for a = 1 .. 1 { }", impl.ErrMany},
		{"for i = 0 .. 63 { for j = 0 .. 62 { } }", impl.OK},
		{"for i = 0 .. 63 { for j = 0 .. 62 { } } for i = 0 .. 0 { }", impl.ErrMany},
		{"for i = 0 .. 4094 { } comb { for i = 0 .. 0 { } }", impl.OK},
		{"for i = 0 .. 4094 { } comb { for i = 0 .. 1 { } }", impl.ErrMany},
		{"comb { for i = 0 .. 4095 { } }", impl.OK},
		{"comb { for i = 0 .. 4096 { } }", impl.ErrMany},
		{"comb { for i = 0 .. 4096 { r = nowhere ; } }", impl.ErrName},
		{"comb { for i = 0 .. 5000 { r = m [ i / 4097 * 6 ] ; } }", impl.ErrMany},
		{"comb { for i = 0 .. 5000 { r = m [ i / 4095 * 6 ] ; } }", impl.ErrRange},
		{"comb { for i = 0 .. 4095 { if a { } else { } r = a + b ; } r = nowhere ; }", impl.ErrName},
	})
}

// sized is items of so many Ex and St in all: 5 for each turn, 2 for each set, 2 for the blocks.
func sized(turns, sets int) string {
	return fmt.Sprintf("reg o ; comb { for i = 1 .. %d { o = c ; o = c ; } %s }", turns, strings.Repeat("o = c ; ", sets))
}

func TestMaxSize(t *testing.T) {
	holdItems(t, []codeCase{
		{sized(3276, 1), impl.OK},
		{sized(3276, 2), impl.ErrMany},
		{sized(3276, 0) + " check c1 = c ;", impl.OK},
		{sized(3276, 0) + " check c1 = c [ 0 ] ;", impl.ErrMany},
		{sized(3276, 0) + " check c1 = c [ 1 ] ;", impl.ErrRange},
		{sized(3276, 1) + " wire v ; check c1 = nowhere ;", impl.ErrName},
		{sized(3276, 1) + " wire v ; check c1 = c ;", impl.ErrMany},
		{sized(3276, 3) + " check c1 = nowhere ;", impl.ErrMany},
		{sized(4000, 3) + " check c1 = nowhere ;", impl.ErrMany},
		{strings.TrimSuffix(sized(4000, 3), "}") + " o = nowhere ; }", impl.ErrName},
		{strings.TrimSuffix(sized(4000, 3), "}") + " for j = 0 .. 95 { o = a [ j / 95 * 8 ] ; } }", impl.ErrRange},
	})
	// what is made for a port counts, and again where it stands
	holdItems(t, []codeCase{
		{"func same ( p ) = p ; " + sized(3275, 2) + " check c1 = same ( c ) ;", impl.OK},
		{"func same ( p ) = p ; " + sized(3275, 2) + " check c1 = ! same ( c ) ;", impl.ErrMany},
		{"func none ( p ) = 1'b1 ; " + sized(3275, 2) + " check c1 = none ( c ) ;", impl.OK},
		{"func none ( p ) = 1'b1 ; " + sized(3275, 2) + " check c1 = none ( & c ) ;", impl.ErrMany},
		{"func two ( p ) = p & p ; " + sized(3275, 1) + " check c1 = two ( c ) ;", impl.OK},
		{"func two ( p ) = p & p ; " + sized(3275, 2) + " check c1 = two ( c ) ;", impl.ErrMany},
		{"func two ( p ) = p & p ; " + sized(3274, 2) + " check c1 = two ( & c ) ;", impl.OK},
		{"func two ( p ) = p & p ; " + sized(3274, 3) + " check c1 = two ( & c ) ;", impl.ErrMany},
		{"func two ( p ) = p & p ; " + sized(3274, 0) + " check c1 = two ( two ( c ) ) ;", impl.OK},
		{"func two ( p ) = p & p ; " + sized(3274, 1) + " check c1 = two ( two ( c ) ) ;", impl.ErrMany},
	})
}

// Funcs that call each other make more than can be made; all else of the process is looked at nevertheless.
func TestCallsWithoutEnd(t *testing.T) {
	funcs := "func f0 ( p ) = p & p ; "
	for i := range 300 {
		funcs += fmt.Sprintf("func f%d ( p ) = f%d ( p ) & f%d ( f%d ( p ) ) ; ", i+1, i, i, i)
	}
	for _, c := range []codeCase{
		{"check c1 = f300 ( c ) ;", impl.ErrMany},
		{"check c1 = f300 ( nowhere ) ;", impl.ErrName},
		{"check c1 = f300 ( c ) + nowhere ;", impl.ErrName},
		{"comb { r = f300 ( a ) ; r = f299 ( r ) ; if f300 ( r ) { r = m ; } }", impl.ErrKind},
		{"comb { case f300 ( c ) { f299 ( c ) , c : { r = f3 ( c ) ; } default : { for i = 0 .. 4095 { r [ i & 7 ] = f300 ( c ) ; } } } }", impl.ErrMany},
		{"comb { case f300 ( c ) { f299 ( c ) , c : { r = f3 ( c ) ; } default : { for i = 0 .. 4095 { r [ i & 7 ] = f300 ( c ) ; } r = 1'b1 + m ; } } }", impl.ErrKind},
		{"assign y = { 64 { f300 ( { 64 { f300 ( c ) } } ) } } ;", impl.ErrMany},
		{"check c1 = c ;", impl.OK},
	} {
		n, code, _ := impl.ParseDesign(theScene + funcs + c.text + " end")
		if code != impl.OK {
			t.Fatal(code)
		}
		if _, code := impl.Elaborate(n, "top", nil); code != c.code {
			t.Errorf("%s: %d, want %d", c.text, code, c.code)
		}
	}
}

// armed is a case of so many arms, which are within each other.
func armed(arms int, more string) string {
	return "comb { case c { " + strings.Repeat("c : { } ", arms) + more + " } }"
}

func TestMaxTree(t *testing.T) {
	holdItems(t, []codeCase{
		{armed(397, ""), impl.OK},
		{armed(398, ""), impl.ErrDeep},
		{armed(397, "default : { r = c ; }"), impl.ErrDeep},
		{armed(396, "default : { r = c ; }"), impl.ErrDeep},
		{armed(396, "default : { r [ 0 ] = c ; }"), impl.OK},
		{armed(396, "default : { if c { } }"), impl.OK},
		{armed(396, "default : { if c { r [ 0 ] = c ; } }"), impl.ErrDeep},
		{armed(398, "default : { r = nowhere ; }"), impl.ErrName},
		{sized(3276, 2) + armed(398, ""), impl.ErrMany},
		{sized(3276, 1) + armed(398, ""), impl.ErrMany},
		{"for i = 0 .. 255 { comb { } } " + armed(398, ""), impl.ErrMany},
	})
	holdItems(t, []codeCase{
		{called(394, "comb { r [ 0 ] = it ; }"), impl.OK},
		{called(398, "comb { r [ 0 ] = it ; }"), impl.ErrDeep},
		{called(398, "check c1 = it ;"), impl.OK},
		{called(399, "check c1 = it ;"), impl.ErrDeep},
		{called(397, "comb { r [ 0 ] = it ; }"), impl.OK},
		{called(398, "assign w [ 0 ] = it ;"), impl.OK},
		{called(399, "assign w [ 0 ] = it ;"), impl.ErrDeep},
		{called(397, "comb { m [ it ] = 5'd1 ; }"), impl.OK},
		{called(398, "comb { m [ it ] = 5'd1 ; }"), impl.ErrDeep},
	})
}

// called writes an expr of so many Ex and one more within each other in the place of it, by funcs of 18 each: no text has so many.
func called(deep int, item string) string {
	funcs := fmt.Sprintf("func d0 ( p ) = %s p ; ", strings.Repeat("& ", deep%18))
	for i := range deep / 18 {
		funcs += fmt.Sprintf("func d%d ( p ) = %s d%d ( p ) ; ", i+1, strings.Repeat("& ", 18), i)
	}
	return funcs + strings.Replace(item, "it", fmt.Sprintf("d%d ( c )", deep/18), 1)
}
