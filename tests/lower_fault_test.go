package tests

import (
	"fmt"
	"strings"
	"testing"

	"loop.example/g00031/impl"
)

type lowerFault struct {
	what, items string
	code        int
}

const faultScene = "module top ( in clk , in d , in [ 2 ] i , in [ 3 ] j , in [ 4 ] a , out y ) assign y = d ; "

func holdFaults(t *testing.T, cases []lowerFault) {
	t.Helper()
	for _, c := range cases {
		f := flatOf(t, faultScene+c.items+" end")
		n, code := holdLowered(t, f)
		if code != c.code {
			t.Errorf("%s: %s: code %d, want %d", c.what, c.items, code, c.code)
		}
		if code != impl.OK && netShown(n) != netShown(impl.Net{}) {
			t.Errorf("%s: %s", c.what, netShown(n))
		}
		if code == impl.OK {
			steps := smithOf(uint64(len(c.items)), 0).steps(n, 12)
			holdStepped(t, f, n, steps, nil)
		}
	}
}

func TestSetTwiceOrByNone(t *testing.T) {
	holdFaults(t, []lowerFault{
		{"nothing", "", impl.OK},
		{"a wire of nothing", "wire w ;", impl.ErrOpen},
		{"a wire by one", "wire w ; assign w = d ;", impl.OK},
		{"a wire by two", "wire w ; assign w = d ; assign w = d ;", impl.ErrTwice},
		{"an out by two", "assign y = d ;", impl.ErrTwice},
		{"parts", "wire [ 4 ] w ; assign w [ 3 : 2 ] = i ; assign w [ 1 : 0 ] = i ;", impl.OK},
		{"parts with a bit in common", "wire [ 4 ] w ; assign w [ 3 : 1 ] = j ; assign w [ 1 : 0 ] = i ;", impl.ErrTwice},
		{"a part within all", "wire [ 4 ] w ; assign w = a ; assign w [ 2 ] = d ;", impl.ErrTwice},
		{"the highest bit lacks", "wire [ 4 ] w ; assign w [ 2 : 0 ] = j ;", impl.ErrOpen},
		{"the lowest bit lacks", "wire [ 4 ] w ; assign w [ 3 : 1 ] = j ;", impl.ErrOpen},
		{"a bit between lacks", "wire [ 4 ] w ; assign w [ 3 ] = d ; assign w [ 1 : 0 ] = i ;", impl.ErrOpen},
		{"a bit twice, another one lacks", "wire [ 4 ] w ; assign w [ 3 : 2 ] = i ; assign w [ 2 : 1 ] = i ;", impl.ErrTwice},
		{"64 bits", "wire [ 64 ] w ; assign w = a ;", impl.OK},
		{"64 bits of parts", "wire [ 64 ] w ; assign w [ 62 : 0 ] = a ; assign w [ 63 ] = d ;", impl.OK},
		{"63 of 64 bits", "wire [ 64 ] w ; assign w [ 62 : 0 ] = a ;", impl.ErrOpen},
		{"the highest of 64 bits twice", "wire [ 64 ] w ; assign w = a ; assign w [ 63 ] = d ;", impl.ErrTwice},
		{"a reg by two", "reg r = 0 ; on clk { r <= d ; } on clk { r <= d ; }", impl.ErrTwice},
		{"a reg by two combs", "reg r ; comb { r = d ; } comb { r = d ; }", impl.ErrTwice},
		{"a reg by comb and on", "reg r = 0 ; on clk { r <= d ; } comb { r = d ; }", impl.ErrTwice},
		{"bits of a reg by two", "reg [ 2 ] r = 0 ; on clk { r [ 0 ] <= d ; } on clk { r [ 1 ] <= d ; }", impl.ErrTwice},
		{"words of a memory by two", "mem m [ 2 ] ; on clk { m [ 0 ] <= d ; } on clk { m [ 1 ] <= d ; }", impl.ErrTwice},
		{"a reg twice by one", "reg r = 0 ; on clk { r <= d ; r <= ~ d ; }", impl.OK},
		{"a reg by two, deep within", "reg r = 0 ; on clk { if d { } else { if d { r <= d ; } } } on clk { if 0 { for k = 1 .. 2 { r <= d ; } } }", impl.ErrTwice},
		{"a reg by none", "reg r = 0 ;", impl.OK},
		{"the first signal counts: open", "wire w ; wire v ; assign v = d ; assign v = d ;", impl.ErrOpen},
		{"the first signal counts: twice", "wire w ; wire v ; assign w = d ; assign w = d ;", impl.ErrTwice},
		{"the first signal counts: a reg", "reg r = 0 ; wire w ; on clk { r <= d ; } on clk { r <= d ; }", impl.ErrTwice},
	})
}

func TestNotPlain(t *testing.T) {
	cases := []lowerFault{
		{"a start process", "start { }", impl.ErrPlain},
		{"a start process that sets", "reg r = 0 ; start { r = 1 ; }", impl.ErrPlain},
		{"an unknown number", "wire [ 2 ] w ; assign w = 2'b0x ;", impl.ErrPlain},
		{"a number not driven", "check c = a == 4'bz ;", impl.ErrPlain},
		{"an unknown number within an OpSame", "reg r ; comb { r = 0 ; case i { 2'b1x : { r = 1 ; } } }", impl.ErrPlain},
	}
	for _, op := range []string{"/", "%"} {
		for _, where := range []string{
			"wire [ 4 ] w ; assign w = a OP a ;", "check c = a OP a ;", "reg [ 4 ] r ; comb { r = a OP a ; }", "reg [ 4 ] r = 0 ; on clk { r <= 1 + ( a OP 3 ) ; }",
			"on clk { if a OP a { } }", "reg [ 4 ] r = 0 ; on clk { r [ i OP 2'd2 ] <= d ; }", "reg r ; comb { r = 0 ; if 0 { r = signed ( a ) OP signed ( a ) ; } }", "check c = { a , ~ ( a OP a ) } < 9 ;",
		} {
			cases = append(cases, lowerFault{"a division", strings.ReplaceAll(where, "OP", op), impl.ErrPlain})
		}
	}
	for _, c := range []struct {
		depth, width int
		want         int
	}{{1, 1, impl.ErrPlain}, {2, 1, impl.OK}, {3, 1, impl.OK}, {3, 2, impl.ErrPlain}, {4, 2, impl.OK}, {5, 3, impl.ErrPlain}, {7, 3, impl.ErrPlain}, {8, 3, impl.OK}, {63, 6, impl.ErrPlain}, {64, 6, impl.OK}, {64, 7, impl.ErrPlain}, {64, 32, impl.ErrPlain}, {64, 63, impl.ErrPlain}, {64, 64, impl.ErrPlain}, {8, 1, impl.OK}} {
		index := fmt.Sprintf("wire [ %d ] w ; assign w = a ; ", c.width)
		what := fmt.Sprint(c.width, " bits for ", c.depth)
		cases = append(cases,
			lowerFault{"a word read: " + what, index + fmt.Sprintf("mem m [ %d ] ; check c = m [ w ] ;", c.depth), c.want},
			lowerFault{"a bit read: " + what, index + fmt.Sprintf("reg [ %d ] r = 1 ; check c = r [ w ] ;", c.depth), c.want},
			lowerFault{"a word set: " + what, index + fmt.Sprintf("mem m [ %d ] ; on clk { m [ w ] <= d ; }", c.depth), c.want},
			lowerFault{"a word set at once: " + what, index + fmt.Sprintf("mem m [ %d ] ; on clk { m [ w ] = d ; }", c.depth), c.want},
			lowerFault{"a bit set: " + what, index + fmt.Sprintf("reg [ %d ] r = 0 ; on clk { r [ w ] <= d ; }", c.depth), c.want},
			lowerFault{"a bit set in a comb: " + what, index + fmt.Sprintf("reg [ %d ] r ; comb { r = 0 ; r [ w ] = d ; }", c.depth), c.want},
		)
	}
	holdFaults(t, cases)
}

// Indexes that are an OpBits: of a number, whatever its width.
func TestFixedIndexes(t *testing.T) {
	f := flatOf(t, faultScene+"mem m [ 5 ] ; reg [ 5 ] r = 0 ; reg p = 0 ; check k = m [ i ] ; check l = r [ i ] ; on clk { m [ i ] <= d ; r [ i ] <= d ; } on clk { p <= d ; } end")
	places := []*impl.Ex{&f.Procs[1].Body.Exs[0].Kids[0], &f.Procs[2].Body.Exs[0].Kids[0], &f.Procs[3].Body.Kids[0].Exs[1], &f.Procs[3].Body.Kids[1].Exs[1]}
	for place, at := range places {
		for bits, want := range map[string]int{
			"0": impl.OK, "1": impl.OK, "100": impl.OK, "101": impl.ErrPlain, "110": impl.ErrPlain, "10x": impl.ErrPlain, "z": impl.ErrPlain,
			zeros(64): impl.OK, zeros(61) + "100": impl.OK, "1" + zeros(63): impl.ErrPlain, zeros(61) + "101": impl.ErrPlain, strings.Repeat("1", 64): impl.ErrPlain, "1" + zeros(32): impl.ErrPlain,
		} {
			kept := *at
			*at = bitsEx(bits)
			if _, code := holdLowered(t, f); code != want {
				t.Errorf("place %d, %s: code %d", place, bits, code)
			}
			*at = kept
		}
	}
	// a bit of a signal of one bit
	set := &f.Procs[4].Body.Kids[0]
	for bits, want := range map[string]int{"0": impl.OK, "000000": impl.OK, "1": impl.ErrPlain, "10": impl.ErrPlain} {
		set.Exs = []impl.Ex{set.Exs[0], bitsEx(bits)}
		if _, code := holdLowered(t, f); code != want {
			t.Errorf("of one bit, %s: code %d", bits, code)
		}
	}
	set.Exs = []impl.Ex{set.Exs[0], sigEx(1, 1)}
	if _, code := holdLowered(t, f); code != impl.ErrPlain {
		t.Errorf("of one bit, by a signal: code %d", code)
	}
}

func TestClockFaults(t *testing.T) {
	holdFaults(t, []lowerFault{
		{"an in", "on clk { }", impl.OK},
		{"a reg", "reg r = 0 ; on r { }", impl.ErrPlain},
		{"an out", "on y { }", impl.ErrPlain},
		{"an out of another in", "on y { } on d { }", impl.ErrPlain},
		{"a wire of an out", "wire w ; assign w = y ; on w { }", impl.ErrPlain},
		{"a wire of a reg", "reg r = 0 ; wire w ; assign w = r ; on w { }", impl.ErrPlain},
		{"a wire that is turned", "wire w ; assign w = ~ clk ; on w { }", impl.ErrPlain},
		{"a wire by a choice", "wire w ; assign w = d ? clk : clk ; on w { }", impl.ErrPlain},
		{"a wire by a join", "wire w ; assign w = { clk } ; on w { }", impl.ErrPlain},
		{"a wire by a bit", "wire w ; assign w = i [ 0 ] ; on w { }", impl.ErrPlain},
		{"a wire of a number", "wire w ; assign w = 1'd0 ; on w { }", impl.ErrPlain},
		{"wires that go round", "wire v ; wire w ; assign v = w ; assign w = v ; on w { }", impl.ErrPlain},
		{"a wire that is itself", "wire w ; assign w = w ; on w { }", impl.ErrPlain},
		{"a wire", "wire w ; assign w = clk ; on w { }", impl.OK},
		{"two wires", "wire v ; wire w ; assign v = clk ; assign w = clk ; on w { } on v { }", impl.OK},
		{"a part of a wire that is all of it", "wire w ; assign w [ 0 ] = clk ; on w { }", impl.OK},
	})
}

func TestClocksThatAreRead(t *testing.T) {
	holdFaults(t, []lowerFault{
		{"by nobody", "on clk { }", impl.OK},
		{"by an out", "on d { }", impl.ErrPlain},
		{"by a check", "on clk { } check c = clk ;", impl.ErrPlain},
		{"by an assign", "wire [ 2 ] w ; on clk { } assign w = { clk , d } ;", impl.ErrPlain},
		{"by a comb", "reg r ; on clk { } comb { r = clk ; }", impl.ErrPlain},
		{"by a test", "on clk { if clk { } }", impl.ErrPlain},
		{"by the on process itself", "reg r = 0 ; on clk { r <= clk ; }", impl.ErrPlain},
		{"as an index", "reg [ 2 ] r = 0 ; on clk { r [ clk ] <= d ; }", impl.ErrPlain},
		{"as a part of a wire", "wire [ 2 ] w ; on clk { } assign w [ 0 ] = clk ; assign w [ 1 ] = d ;", impl.ErrPlain},
		{"as a wider wire", "wire [ 2 ] w ; on clk { } assign w = clk ;", impl.ErrPlain},
		{"an in that is no clock", "check c = clk ;", impl.OK},
		{"a wire that is a clock", "wire w ; assign w = clk ; on clk { } check c = w ;", impl.ErrPlain},
		{"a wire by a wire", "wire v ; wire w ; assign w = clk ; assign v = w ; on clk { }", impl.OK},
		{"a wire by a wire ahead", "wire v ; wire w ; assign v = w ; assign w = clk ; on v { }", impl.OK},
		{"a wire of a wire", "wire v ; wire w ; assign w = clk ; assign v = w ; on clk { } check c = v ;", impl.ErrPlain},
		{"the root of a wire", "wire w ; assign w = clk ; on w { } check c = clk ;", impl.ErrPlain},
		{"a wire beside", "wire v ; wire w ; assign w = clk ; assign v = clk ; on w { } check c = v ;", impl.ErrPlain},
		{"a wire, turned", "wire v ; wire w ; assign w = clk ; assign v = ~ w ; on w { }", impl.ErrPlain},
		{"a wire of an in that is no clock", "wire w ; assign w = d ; on clk { } check c = w & d ;", impl.OK},
	})
	// an index that is an OpBits reads it, too
	f := flatOf(t, faultScene+"wire w ; assign w = clk ; on clk { } check c = d ; end")
	for _, sig := range []string{"clk", "w"} {
		f.Procs[3].Body.Exs[0] = impl.Ex{Op: impl.OpPick, Width: 1, N: sigOf(f, sig), Kids: []impl.Ex{bitsEx("0")}}
		if _, code := holdLowered(t, f); code != impl.ErrPlain {
			t.Errorf("a bit of %s: code %d", sig, code)
		}
	}
	// a wire whose only bit is picked is no other name of the clock
	f = flatOf(t, faultScene+"wire w ; assign w = clk ; on w { } end")
	f.Procs[1].Body.Exs[0] = impl.Ex{Op: impl.OpPick, Width: 1, N: sigOf(f, "clk"), Kids: []impl.Ex{bitsEx("0")}}
	if _, code := holdLowered(t, f); code != impl.ErrPlain {
		t.Errorf("a wire by a pick: code %d", code)
	}
}

func TestStateFaults(t *testing.T) {
	holdFaults(t, []lowerFault{
		{"at once and later", "reg r = 0 ; on clk { r = d ; r <= d ; }", impl.ErrKind},
		{"at once and later, other bits", "reg [ 2 ] r = 0 ; on clk { r [ 0 ] = d ; if d { r [ 1 ] <= d ; } }", impl.ErrKind},
		{"at once and later, words", "mem m [ 2 ] ; on clk { m [ 0 ] <= d ; m [ 1 ] = d ; }", impl.ErrKind},
		{"other regs at once and later", "reg r = 0 ; reg s = 0 ; on clk { r = d ; s <= r ; }", impl.OK},
		{"a memory by a comb", "mem m [ 2 ] ; comb { m [ 0 ] = d ; m [ 1 ] = d ; }", impl.ErrKind},
		{"not known, not set", "reg r ;", impl.ErrPlain},
		{"not known, set by an on", "reg [ 2 ] r ; on clk { r <= i ; }", impl.ErrPlain},
		{"not known, set at once", "reg [ 2 ] r ; on clk { r = i ; }", impl.ErrPlain},
		{"not known, set by a comb", "reg [ 2 ] r ; comb { r = i ; }", impl.OK},
		{"at once, read by nobody", "reg r = 0 ; on clk { r = d ; }", impl.OK},
		{"at once, read by itself", "reg r = 0 ; on clk { r = d ^ r ; if r { } }", impl.OK},
		{"at once, read by an assign", "wire w ; reg r = 0 ; on clk { r = d ; } assign w = r ;", impl.ErrPlain},
		{"at once, read by a comb", "reg p ; reg r = 0 ; on clk { r = d ; } comb { p = r ; }", impl.ErrPlain},
		{"at once, read by an on", "reg p = 0 ; reg r = 0 ; on clk { r = d ; } on clk { if r { p <= d ; } }", impl.ErrPlain},
		{"at once, read by an on ahead", "reg p = 0 ; reg r = 0 ; on clk { if r { p <= d ; } } on clk { r = d ; }", impl.ErrPlain},
		{"at once, read by a check", "reg r = 0 ; check c = ~ r ; on clk { r = d ; }", impl.ErrPlain},
		{"at once, a bit read", "reg [ 4 ] r = 0 ; check c = r [ i ] ; on clk { r = a ; }", impl.ErrPlain},
		{"at once, a word read", "mem m [ 2 ] ; check c = m [ 0 ] ; on clk { m [ 1 ] = d ; }", impl.ErrPlain},
		{"at once, a word read by itself", "mem m [ 2 ] ; on clk { m [ 1 ] = m [ 0 ] ; }", impl.OK},
		{"later, read by all", "reg r = 0 ; check c = r ; reg p ; comb { p = r ; } on clk { r <= p ^ d ; } reg s = 0 ; on clk { s <= r ; }", impl.OK},
		{"the first one counts: kind", "mem m [ 2 ] ; reg r ; comb { m [ 0 ] = d ; }", impl.ErrKind},
		{"the first one counts: plain", "reg r ; mem m [ 2 ] ; comb { m [ 0 ] = d ; }", impl.ErrPlain},
		{"the first one counts: read", "reg r = 0 ; mem m [ 2 ] ; comb { m [ 0 ] = d ; } on clk { r = d ; } check c = r ;", impl.ErrPlain},
		{"of one the kind counts", "reg r ; on clk { r = d ; r <= d ; }", impl.ErrKind},
	})
	f := flatOf(t, faultScene+"mem [ 2 ] m [ 2 ] ; check c = m [ 0 ] ; end")
	for init, want := range map[string]int{"00": impl.OK, "11": impl.OK, "0x": impl.ErrPlain, "z1": impl.ErrPlain} {
		f.Signals[sigOf(f, "m")].Init = init
		if _, code := holdLowered(t, f); code != want {
			t.Errorf("a memory of %s: code %d", init, code)
		}
	}
}

func TestLoops(t *testing.T) {
	holdFaults(t, []lowerFault{
		{"a wire that reads itself", "wire w ; assign w = ~ w ;", impl.ErrLoop},
		{"a wire whose bits read others of it", "wire [ 2 ] w ; assign w [ 0 ] = w [ 1 ] ; assign w [ 1 ] = d ;", impl.ErrLoop},
		{"a wire whose index is itself", "wire w ; assign w = i [ w ] ;", impl.ErrLoop},
		{"two wires", "wire v ; wire w ; assign v = w & d ; assign w = v ;", impl.ErrLoop},
		{"bits of two wires", "wire [ 2 ] v ; wire w ; assign v [ 0 ] = w ; assign v [ 1 ] = d ; assign w = v [ 1 ] ;", impl.ErrLoop},
		{"three, by way of a comb", "wire v ; wire w ; reg p ; assign v = w ; assign w = p ; comb { p = v ; }", impl.ErrLoop},
		{"two combs", "reg p ; reg q ; comb { p = q ; } comb { q = p ; }", impl.ErrLoop},
		{"two combs by a test", "reg p ; reg q ; comb { p = 0 ; if q { p = d ; } } comb { q = d ; if 0 { q = p ; } }", impl.ErrLoop},
		{"two combs by other regs", "reg p ; reg q ; reg r ; comb { p = q ; r = d ; } comb { q = r ; }", impl.ErrLoop},
		{"a comb that reads what it sets", "reg p ; comb { p = d ; p = ~ p ; }", impl.OK},
		{"a way that ends", "wire v ; wire w ; assign v = w ; assign w = d ;", impl.OK},
		{"many ways that end", "wire v ; wire w ; wire u ; assign v = w ^ u ; assign w = u ^ d ; assign u = d ;", impl.OK},
		{"by way of a register", "wire v ; reg r = 0 ; on clk { r <= v ; } assign v = ~ r ;", impl.OK},
		{"by way of a memory", "wire v ; mem m [ 2 ] ; on clk { m [ v ] <= v ; } assign v = m [ d ] ;", impl.OK},
		{"a loop beside", "wire v ; wire w ; assign v = d ; assign w = w ;", impl.ErrLoop},
		{"a loop that nobody needs", "wire w ; assign w = w ;", impl.ErrLoop},
	})
}

func TestOpenBits(t *testing.T) {
	scene := "reg [ 2 ] p ; reg q ; "
	holdFaults(t, []lowerFault{
		{"all set", scene + "comb { p = i ; q = d ; }", impl.OK},
		{"one bit open at the end", scene + "comb { p [ 0 ] = d ; q = d ; }", impl.ErrLatch},
		{"the other bit open at the end", scene + "comb { p [ 1 ] = d ; q = d ; }", impl.ErrLatch},
		{"set by bits", scene + "comb { p [ 0 ] = d ; q = d ; p [ 1 ] = d ; }", impl.OK},
		{"one branch", scene + "comb { q = d ; if d { p = i ; } }", impl.ErrLatch},
		{"the other branch", scene + "comb { q = d ; if d { } else { p = i ; } }", impl.ErrLatch},
		{"both branches", scene + "comb { q = d ; if d { p = 0 ; } else { p = i ; } }", impl.OK},
		{"other bits in each branch", scene + "comb { q = d ; if d { p [ 0 ] = 0 ; } else { p [ 1 ] = 0 ; } }", impl.ErrLatch},
		{"a bit in both, the other one behind", scene + "comb { q = d ; if d { p [ 0 ] = 0 ; } else { p = 0 ; } p [ 1 ] = d ; }", impl.OK},
		{"a test that always holds", scene + "comb { q = d ; if 1 { p = i ; } }", impl.ErrLatch},
		{"a case of all", scene + "comb { q = d ; case d { 1'd0 : { p = 0 ; } 1'd1 : { p = 1 ; } } }", impl.ErrLatch},
		{"a case with a default", scene + "comb { q = d ; case d { 1'd0 : { p = 0 ; } default : { p = 1 ; } } }", impl.OK},
		{"set ahead of one branch", scene + "comb { p = 0 ; q = d ; if d { p = i ; } }", impl.OK},
		{"set behind one branch", scene + "comb { q = d ; if d { p = i ; } p = 0 ; }", impl.OK},
		{"read ahead", scene + "comb { q = p [ 0 ] ; p = 0 ; }", impl.ErrLatch},
		{"read behind", scene + "comb { p = 0 ; q = p [ 0 ] ; }", impl.OK},
		{"read as it is set", scene + "comb { p = p + 1 ; q = d ; }", impl.ErrLatch},
		{"a bit read that is set, another one open", scene + "comb { p [ 0 ] = d ; q = p [ 0 ] ; p [ 1 ] = d ; }", impl.ErrLatch},
		{"a bit by an index read, one open", scene + "comb { p [ 0 ] = d ; q = p [ d ] ; p [ 1 ] = d ; }", impl.ErrLatch},
		{"read in a test", scene + "comb { if p { q = d ; } else { q = 0 ; } p = 0 ; }", impl.ErrLatch},
		{"read in a branch where it is open", scene + "comb { q = d ; if d { p = 0 ; } else { q = p [ 0 ] ; p = 1 ; } }", impl.ErrLatch},
		{"read in a branch where it is set", scene + "comb { q = d ; if d { p = 0 ; q = p [ 0 ] ; } else { p = 1 ; } }", impl.OK},
		{"read behind one branch", scene + "comb { if d { p = 0 ; } q = p [ 0 ] ; p = 0 ; }", impl.ErrLatch},
		{"read behind both", scene + "comb { if d { p = 0 ; } else { p = i ; } q = p [ 0 ] ; }", impl.OK},
		{"read as an index", scene + "comb { q = i [ p [ 0 ] ] ; p = 0 ; }", impl.ErrLatch},
		{"read where another one is set by it", scene + "comb { p = 0 ; p [ q ] = 1 ; q = 0 ; }", impl.ErrLatch},
		{"a bit by an index while all are open", scene + "comb { q = d ; p [ d ] = 1 ; }", impl.ErrLatch},
		{"a bit by an index while all are open, set behind", scene + "comb { q = d ; p [ d ] = 1 ; p = 0 ; }", impl.ErrLatch},
		{"a bit by an index while one is open", scene + "comb { q = d ; p [ 1 ] = 1 ; p [ d ] = 1 ; p = 0 ; }", impl.ErrLatch},
		{"a bit by an index behind all", scene + "comb { q = d ; p = 1 ; p [ d ] = 1 ; }", impl.OK},
		{"another reg open while one is read", scene + "comb { p = 0 ; p [ p [ 0 ] ] = 1 ; q = d ; }", impl.OK},
		{"in a process that comes last", scene + "comb { p = { q , d } ; } comb { if d { q = d ; } }", impl.ErrLatch},
		{"in an on process nothing is open", "reg [ 2 ] r = 0 ; on clk { r [ d ] = r [ d ] ; if d { r [ 0 ] = 1 ; } }", impl.OK},
	})
	// a bit of an OpBits is set by bits
	f := flatOf(t, faultScene+scene+"comb { p [ 0 ] = d ; p [ 1 ] = d ; q = d ; } end")
	for bit := range 2 {
		f.Procs[1].Body.Kids[bit].Exs = append(f.Procs[1].Body.Kids[bit].Exs, bitsEx(impl.BitsOf(bit, 9)))
		f.Procs[1].Body.Kids[bit].Low = 0
	}
	if _, code := holdLowered(t, f); code != impl.OK {
		t.Errorf("bits of OpBits: code %d", code)
	}
	f.Procs[1].Body.Kids[1].Exs[1] = bitsEx("0")
	if _, code := holdLowered(t, f); code != impl.ErrLatch {
		t.Errorf("one bit of OpBits twice: code %d", code)
	}
}

// One fault of each kind; those of one stage that count by their places have the same rank.
func TestOrderOfFaults(t *testing.T) {
	clocks, memories := "", ""
	for i := range 9 {
		clocks += fmt.Sprintf("on k%d { } ", i)
	}
	for i := range 5 {
		memories += fmt.Sprintf("mem m9%d [ 64 ] ; on clk { m9%d [ 0 ] <= d ; } ", i, i)
	}
	kinds := []struct {
		items string
		code  int
		rank  int
	}{
		{"start { }", impl.ErrPlain, 20},
		{"wire t3 ; assign t3 = d ; assign t3 = d ;", impl.ErrTwice, 30},
		{"wire o3 ;", impl.ErrOpen, 30},
		{"reg r3 ; comb { r3 = d ; } comb { r3 = d ; }", impl.ErrTwice, 30},
		{"wire [ 4 ] p4 ; assign p4 = a / a ;", impl.ErrPlain, 40},
		{"reg g5 = 0 ; on g5 { }", impl.ErrPlain, 50},
		{clocks, impl.ErrMany, 51},
		{"wire w5 ; assign w5 = clk ; check c5 = w5 ; on w5 { }", impl.ErrPlain, 52},
		{"mem m6 [ 2 ] ; comb { m6 [ 0 ] = d ; }", impl.ErrKind, 60},
		{"reg u6 ;", impl.ErrPlain, 60},
		{"reg a6 = 0 ; on clk { a6 = d ; } check b6 = a6 ;", impl.ErrPlain, 60},
		{"wire v7 ; wire w7 ; assign v7 = w7 ; assign w7 = v7 ;", impl.ErrLoop, 70},
		{"reg p8 ; comb { if d { p8 = d ; } }", impl.ErrLatch, 80},
		{memories, impl.ErrMany, 90},
		{"mem long [ 2 ] ; on clk { long [ 0 ] <= d ; }", impl.ErrLong, 91},
		{"mem twice [ 2 ] ; reg first = 0 ; on clk { twice [ 0 ] <= d ; first <= d ; }", impl.ErrTwice, 92},
		{"reg fine = 0 ; on clk { fine <= d ; }", impl.OK, 100},
	}
	for i, a := range kinds {
		for j, b := range kinds {
			if i == j {
				continue
			}
			f := flatOf(t, "module top ( in clk , in d , in [ 4 ] a , in k0 , in k1 , in k2 , in k3 , in k4 , in k5 , in k6 , in k7 , in k8 ) "+a.items+" "+b.items+" end")
			renamed(f)
			want := a.code
			if b.rank < a.rank {
				want = b.code
			}
			if _, code := holdLowered(t, f); code != want {
				t.Errorf("%s %s: code %d, want %d", a.items, b.items, code, want)
			}
			f.Procs = append(f.Procs, impl.Proc{Kind: 9})
			if _, code := holdLowered(t, f); code != impl.ErrBad {
				t.Errorf("%s %s: no flat design: code %d", a.items, b.items, code)
			}
		}
	}
}

// renamed gives signals names that no text gives.
func renamed(f impl.Flat) {
	for i, s := range f.Signals {
		switch s.Name {
		case "long":
			f.Signals[i].Name = strings.Repeat("n", 998)
		case "first":
			f.Signals[i].Name = "twice[0]"
		}
	}
}
