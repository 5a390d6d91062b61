package tests

import (
	"fmt"
	"slices"
	"strconv"
	"strings"
	"testing"

	"loop.example/g00031/impl"
)

func sigOf(f impl.Flat, name string) int {
	return slices.IndexFunc(f.Signals, func(s impl.Signal) bool { return s.Name == name })
}

// stimsOf reads what comes in, written as "0: clk=0 a=11; 2: clk=1".
func stimsOf(f impl.Flat, text string) []impl.Stim {
	var all []impl.Stim
	for part := range strings.SplitSeq(text, ";") {
		begin, rest, _ := strings.Cut(part, ":")
		time, _ := strconv.Atoi(strings.TrimSpace(begin))
		for _, one := range strings.Fields(rest) {
			name, bits, _ := strings.Cut(one, "=")
			all = append(all, impl.Stim{Time: time, Sig: sigOf(f, name), Bits: bits})
		}
	}
	return all
}

// timed puts what was told at one time together.
func timed(list []string, times []int) string {
	var out []string
	for i, one := range list {
		if i > 0 && times[i] == times[i-1] {
			out[len(out)-1] += " " + one
		} else {
			out = append(out, fmt.Sprint(times[i], ": ", one))
		}
	}
	return strings.Join(out, "; ")
}

func changesShown(f impl.Flat, list []impl.Change) string {
	var told []string
	var times []int
	for _, c := range list {
		name := f.Signals[c.Sig].Name
		if f.Signals[c.Sig].Kind == impl.SigMem {
			name += fmt.Sprint("[", c.Word, "]")
		} else if c.Word != 0 {
			name += " of a wrong word"
		}
		told, times = append(told, name+"="+c.Bits), append(times, c.Time)
	}
	return timed(told, times)
}

func racesShown(f impl.Flat, list []impl.Race) string {
	var told []string
	var times []int
	for _, r := range list {
		kind := []string{"", "set", "read", "later"}[r.Kind]
		told, times = append(told, fmt.Sprintf("%s(%s %d %d)", kind, f.Signals[r.Sig].Name, r.A, r.B)), append(times, r.Time)
	}
	return timed(told, times)
}

func failsShown(list []impl.Fail) string {
	var told []string
	var times []int
	for _, f := range list {
		told, times = append(told, f.Name), append(times, f.Time)
	}
	return timed(told, times)
}

func endShown(r impl.SimRes) string {
	end := fmt.Sprintf("time %d deltas %d runs %d", r.Time, r.Deltas, r.Runs)
	if r.Stopped {
		end += " stopped"
	}
	return end
}

// eventCase is a run till time 20; what is "*" is not looked at.
type eventCase struct {
	what, text, stims                   string
	changes, races, fails, final, ended string
}

func holdEvents(t *testing.T, cases []eventCase) {
	t.Helper()
	for _, c := range cases {
		f := flatOf(t, c.text)
		holdRun(t, c, f, nil)
	}
}

func holdRun(t *testing.T, c eventCase, f impl.Flat, order []int) {
	t.Helper()
	r, code := holdSimulated(t, f, stimsOf(f, c.stims), 20, order)
	if code != impl.OK {
		t.Errorf("%s: code %d", c.what, code)
		return
	}
	for _, pair := range [][3]string{
		{"changes", changesShown(f, r.Changes), c.changes},
		{"races", racesShown(f, r.Races), c.races},
		{"fails", failsShown(r.Fails), c.fails},
		{"final", strings.Join(r.Final, " "), c.final},
		{"ended", endShown(r), c.ended},
	} {
		if pair[2] != "*" && pair[1] != pair[2] {
			t.Errorf("%s: %s: %s, want %s", c.what, pair[0], pair[1], pair[2])
		}
	}
}

func TestReadWithinADelta(t *testing.T) {
	holdEvents(t, []eventCase{
		{
			"its own sets at once", "module top ( in clk ) reg a = 0 ; reg b = 0 ; on clk { b = a ; a = 1 ; b = { b , a } ; } end", "1: clk=1",
			"1: clk=1 a=1 b=1", "", "", "1 1 1", "time 1 deltas 1 runs 1",
		},
		{
			"its own bits beside those that stand", "module top ( in clk ) reg [ 4 ] a = 9 ; reg [ 4 ] b ; on clk { a [ 2 : 1 ] = 2'b1x ; b = a ; a [ 3 ] = 0 ; } end", "1: clk=1",
			"1: clk=1 a=01x1 b=11x1", "", "", "1 01x1 11x1", "time 1 deltas 1 runs 1",
		},
		{
			"its own words", "module top ( in clk ) mem [ 2 ] m [ 3 ] ; reg [ 4 ] b ; on clk { m [ 1 ] = 2 ; b = { m [ 1 ] , m [ 2 ] } ; m [ 2 ] = 3 ; } end", "1: clk=1",
			"1: clk=1 m[1]=10 m[2]=11 b=1000", "", "", "1 001011 1000", "time 1 deltas 1 runs 1",
		},
		{
			"by its own index and test", "module top ( in clk ) reg [ 2 ] i = 0 ; reg [ 4 ] b = 0 ; on clk { i = 2 ; if i == 2 { b [ i ] = 1 ; } i = 3 ; } end", "1: clk=1",
			"1: clk=1 i=11 b=0100", "", "", "1 11 0100", "time 1 deltas 1 runs 1",
		},
		{
			"those of others not", "module top ( in clk ) reg a = 0 ; reg b = 0 ; on clk { a = 1 ; } on clk { b = ~ a ; } end", "1: clk=1",
			"1: clk=1 a=1 b=1", "1: read(a 0 1)", "", "1 1 1", "time 1 deltas 1 runs 2",
		},
		{
			"in either order", "module top ( in clk ) reg a = 0 ; reg b = 0 ; on clk { b = ~ a ; } on clk { a = 1 ; } end", "1: clk=1",
			"1: clk=1 a=1 b=1", "1: read(a 1 0)", "", "1 1 1", "time 1 deltas 1 runs 2",
		},
		{
			"two that exchange", "module top ( in clk ) reg a = 0 ; reg b = 1 ; on clk { a = b ; } on clk { b = a ; } end", "1: clk=1",
			"1: clk=1 a=1 b=0", "1: read(a 0 1) read(b 1 0)", "", "1 1 0", "time 1 deltas 1 runs 2",
		},
		{
			"one that is set later not yet", "module top ( in clk ) reg a = 0 ; reg b = 0 ; on clk { a <= 1 ; b = ~ a ; a <= b ; } end", "1: clk=1",
			"1: clk=1 a=1 b=1", "", "", "1 1 1", "time 1 deltas 1 runs 1",
		},
		{
			"what is set later by what stands when it runs", "module top ( in clk ) reg [ 2 ] a = 0 ; reg [ 2 ] i = 1 ; reg [ 4 ] r = 0 ; on clk { r [ i ] <= a [ 0 ] ; a = 1 ; r [ i ] <= a [ 0 ] ; i = 3 ; r [ i ] <= a [ 0 ] ; a = 0 ; } end", "1: clk=1",
			"1: clk=1 i=11 r=1010", "", "", "1 00 11 1010", "time 1 deltas 1 runs 1",
		},
		{
			"a comb with its own changes", "module top ( in [ 2 ] a ) reg [ 2 ] r = 0 ; comb { if r < a { r = r + 1 ; } } end", "1: a=11",
			"1: a=11 r=11", "", "", "11 11", "time 1 deltas 5 runs 5",
		},
		{
			"set and set back", "module top ( in clk ) reg a = 0 ; reg n = 0 ; on clk { a = 1 ; a = 0 ; } on a { n = 1 ; } comb { n = a ; } end", "1: clk=1",
			"1: clk=1", "", "", "1 0 0", "time 1 deltas 2 runs 2",
		},
	})
}

func TestWaitsAndStops(t *testing.T) {
	holdEvents(t, []eventCase{
		{
			"waits of more", "module top ( ) reg [ 4 ] a = 0 ; start { wait 2 ; a = 1 ; wait 3 ; a = 2 ; wait 15 ; a = 3 ; wait 1 ; a = 4 ; } end", "",
			"2: a=0001; 5: a=0010; 20: a=0011", "", "", "0011", "time 20 deltas 4 runs 4",
		},
		{
			"one behind until", "module top ( ) reg [ 4 ] a = 0 ; start { wait 21 ; a = 1 ; stop ; } end", "",
			"", "", "", "0000", "time 0 deltas 1 runs 1",
		},
		{
			"a wait of 0 lets the others go on", "module top ( ) reg a = 0 ; reg b = 0 ; reg [ 2 ] s = 0 ; comb { b = a ; } start { a = 1 ; wait 0 ; s [ 0 ] = b ; wait 0 ; s [ 1 ] = b ; } end", "",
			"0: a=1 b=1 s=10", "0: read(b 0 1)", "", "1 1 10", "time 0 deltas 3 runs 5",
		},
		{
			"a wait of 0 is over ahead of what is set later", "module top ( ) reg a = 0 ; reg [ 2 ] s = 0 ; start { a <= 1 ; wait 0 ; s [ 0 ] = a ; wait 0 ; s [ 1 ] = a ; } end", "",
			"0: a=1", "", "", "1 00", "time 0 deltas 3 runs 3",
		},
		{
			"what is set later is done ahead of the next time", "module top ( ) reg a = 0 ; reg s = 0 ; start { a <= 1 ; wait 1 ; s = a ; } end", "",
			"0: a=1; 1: s=1", "", "", "1 1", "time 1 deltas 2 runs 2",
		},
		{
			"several at one time", "module top ( ) reg [ 3 ] a = 0 ; start { wait 4 ; a [ 0 ] = 1 ; } start { wait 1 ; wait 3 ; a [ 1 ] = 1 ; } start { wait 3 ; wait 1 ; wait 0 ; a [ 2 ] = 1 ; } end", "",
			"4: a=111", "", "", "111", "time 4 deltas 5 runs 9",
		},
		{
			"many that wait", "module top ( ) reg [ 5 ] a = 0 ; start { wait 5 ; a = 5 ; } start { wait 2 ; a = 2 ; } start { wait 7 ; a = 7 ; } start { wait 1 ; a = 1 ; } start { wait 3 ; a = 3 ; wait 3 ; a = 6 ; } start { wait 4 ; a = 4 ; } end", "",
			"1: a=00001; 2: a=00010; 3: a=00011; 4: a=00100; 5: a=00101; 6: a=00110; 7: a=00111", "", "", "00111", "time 7 deltas 8 runs 13",
		},
		{
			"within tests", "module top ( in c ) reg [ 3 ] a = 0 ; start { if c { a = 1 ; wait 2 ; a = 2 ; } else { wait 5 ; a = 3 ; } a = a + 4 ; } end", "0: c=1; 1: c=0",
			"0: c=1 a=001; 1: c=0; 2: a=110", "", "", "0 110", "time 2 deltas 2 runs 2",
		},
		{
			"within the other part", "module top ( in c ) reg [ 3 ] a = 0 ; start { if c { a = 1 ; wait 2 ; a = 2 ; } else { wait 5 ; a = 3 ; } a = a + 4 ; } end", "",
			"5: a=111", "", "", "x 111", "time 5 deltas 2 runs 2",
		},
		{
			"a stop", "module top ( in c ) reg [ 3 ] a = 0 ; start { a = 1 ; wait 3 ; a = 2 ; stop ; a = 3 ; } start { wait 2 ; wait 2 ; a = 4 ; } end", "3: c=1; 4: c=0",
			"0: a=001; 3: c=1 a=010", "", "", "1 010", "time 3 deltas 3 runs 4 stopped",
		},
		{
			"a stop lets its time step end", "module top ( ) reg a = 0 ; reg b = 0 ; reg c = 0 ; start { a <= 1 ; stop ; } on a { b = 1 ; c <= 1 ; } start { wait 0 ; wait 0 ; wait 1 ; b = 0 ; } check is = c ; end", "",
			"0: a=1 b=1 c=1", "", "", "1 1 1", "time 0 deltas 4 runs 5 stopped",
		},
		{
			"a stop behind a test", "module top ( ) reg a = 0 ; start { if a { stop ; } else { a = 1 ; } wait 1 ; if a { if 1 { stop ; } a = 0 ; } } start { wait 2 ; } end", "",
			"0: a=1", "", "", "1", "time 1 deltas 2 runs 3 stopped",
		},
		{
			"an end for good", "module top ( in c ) reg [ 2 ] a = 0 ; start { a = a + 1 ; } start { } end", "0: c=1; 1: c=0; 2: c=1",
			"0: c=1 a=01; 1: c=0; 2: c=1", "", "", "1 01", "time 2 deltas 1 runs 2",
		},
		{
			"one without processes", "module top ( in c ) reg a ; end", "0: c=x; 3: c=x; 4: c=z",
			"4: c=z", "", "", "z x", "time 4 deltas 0 runs 0",
		},
	})
}

func TestWaking(t *testing.T) {
	holdEvents(t, []eventCase{
		{
			"a comb that reads nothing", "module top ( in a ) reg r ; comb { r = 1 ; } end", "2: a=1",
			"0: r=1; 2: a=1", "", "", "1 1", "time 2 deltas 1 runs 1",
		},
		{
			"by what stands in a part that is not taken", "module top ( in a , in b ) reg r = 0 ; comb { if 0 { if a { } else { r = b ; } } } end", "1: a=1; 2: b=1; 3: b=1",
			"1: a=1; 2: b=1", "", "", "1 1 0", "time 3 deltas 3 runs 3",
		},
		{
			"by an index and any word", "module top ( in clk , in [ 2 ] a ) mem [ 2 ] m [ 4 ] ; reg [ 2 ] r ; reg p ; reg [ 4 ] t = 0 ; on clk { m [ 3 ] <= 1 ; } comb { r = m [ 0 ] ; } comb { p = a [ a ] ; } comb { t [ a ] = 1 ; } end", "1: a=10; 2: clk=1; 3: a=01",
			"0: r=00; 1: a=10 t=0100; 2: clk=1 m[3]=01; 3: a=01 p=0 t=0110", "", "", "1 01 00000001 00 0 0110", "time 3 deltas 5 runs 9",
		},
		{
			"not by what it sets", "module top ( in a ) reg [ 2 ] r = 0 ; comb { r = 1 ; } start { wait 1 ; r = 2 ; } end", "",
			"0: r=01; 1: r=10", "", "", "x 10", "time 1 deltas 2 runs 3",
		},
		{
			"an on process not by what it reads", "module top ( in clk , in a ) reg r = 0 ; on clk { r = a ; } end", "0: clk=0; 1: a=1; 2: clk=1; 3: a=0",
			"0: clk=0; 1: a=1; 2: clk=1 r=1; 3: a=0", "", "", "1 0 1", "time 3 deltas 1 runs 1",
		},
		{
			"a check never", "module top ( in a ) check c = a ; end", "0: a=1; 1: a=0; 2: a=x; 3: a=1",
			"0: a=1; 1: a=0; 2: a=x; 3: a=1", "", "1: c; 2: c", "1", "time 3 deltas 0 runs 0",
		},
		{
			"several stims of one signal at one time", "module top ( in clk , in a ) reg [ 2 ] n = 0 ; on clk { n <= n + 1 ; } end", "0: clk=1 clk=0 a=1; 1: clk=1 clk=0; 2: clk=0 clk=1 a=0 a=1",
			"0: clk=0 a=1; 2: clk=1 n=01", "", "", "1 1 01", "time 2 deltas 1 runs 1",
		},
		{
			"a clock from anything", "module top ( in clk ) reg [ 4 ] n = 0 ; on clk { n <= n + 1 ; } end", "0: clk=1; 1: clk=1; 2: clk=x; 3: clk=1; 4: clk=z; 5: clk=1; 6: clk=0; 7: clk=x; 8: clk=z; 9: clk=0; 10: clk=1",
			"0: clk=1 n=0001; 2: clk=x; 3: clk=1 n=0010; 4: clk=z; 5: clk=1 n=0011; 6: clk=0; 7: clk=x; 8: clk=z; 9: clk=0; 10: clk=1 n=0100", "", "", "1 0100", "time 10 deltas 4 runs 4",
		},
		{
			"a clock that is a wire", "module top ( in a , in b ) wire k ; reg [ 2 ] n = 0 ; assign k = a & b ; on k { n = n + 1 ; } end", "0: a=1; 1: b=1; 2: b=0; 3: b=1; 4: a=x; 5: a=1",
			"0: a=1 k=x; 1: b=1 k=1 n=01; 2: b=0 k=0; 3: b=1 k=1 n=10; 4: a=x k=x; 5: a=1 k=1 n=11", "", "", "1 1 1 11", "time 5 deltas 9 runs 9",
		},
		{
			"a clock from z at the beginning", "module top ( ) wire k ; reg n = 0 ; assign k = 1 ; on k { n = 1 ; } end", "",
			"0: k=1 n=1", "", "", "1 1", "time 0 deltas 2 runs 2",
		},
		{
			"a clock that is 1 from the beginning", "module top ( ) reg k = 1 ; reg n = 0 ; on k { n = 1 ; } comb { k = 1 ; } end", "",
			"", "", "", "1 0", "time 0 deltas 1 runs 1",
		},
		{
			"a clock that is set at once and back later", "module top ( ) reg k = 0 ; reg [ 2 ] n = 0 ; start { k = 1 ; k <= 0 ; wait 1 ; k <= 1 ; } on k { n = n + 1 ; } end", "",
			"0: n=01; 1: k=1 n=10", "", "", "1 10", "time 1 deltas 4 runs 4",
		},
	})
}

func TestDrivers(t *testing.T) {
	holdEvents(t, []eventCase{
		{
			"none", "module top ( out [ 2 ] y ) wire w ; end", "", "", "", "", "zz z", "time 0 deltas 0 runs 0",
		},
		{
			"bits of one wire", "module top ( in [ 2 ] a , out [ 5 ] y ) assign y [ 1 : 0 ] = a ; assign y [ 3 ] = a [ 0 ] ; end", "1: a=01; 2: a=z1",
			"0: y=zxzxx; 1: a=01 y=z1z01; 2: a=z1 y=z1zz1", "", "", "z1 z1zz1", "time 2 deltas 3 runs 6",
		},
		{
			"bits that meet", "module top ( in [ 4 ] a , in [ 4 ] b , out [ 4 ] y ) assign y = a ; assign y = b ; end", "0: a=01xz b=zzzz; 1: b=0011; 2: b=10zx; 3: a=zzzz",
			"0: a=01xz b=zzzz y=01xz; 1: b=0011 y=0xx1; 2: b=10zx y=xxxx; 3: a=zzzz y=10zx", "", "", "zzzz 10zx 10zx", "time 3 deltas 4 runs 5",
		},
		{
			"parts that meet", "module top ( in e , out [ 4 ] y ) assign y [ 2 : 0 ] = e ? 3'b000 : 3'bzzz ; assign y [ 3 : 1 ] = e ? 3'bzz0 : 3'b101 ; assign y [ 1 ] = 1 ; end", "0: e=0; 1: e=1",
			"0: e=0 y=101z; 1: e=1 y=z0x0", "", "", "1 z0x0", "time 1 deltas 2 runs 5",
		},
		{
			"a driver that was of another value", "module top ( in a , out y ) assign y = a ; end", "0: a=1; 1: a=0; 2: a=z",
			"0: a=1 y=1; 1: a=0 y=0; 2: a=z y=z", "", "", "z z", "*",
		},
		{
			"through modules", "module inv ( in a , out y ) assign y = ~ a ; end module top ( in a , out y ) wire w ; use inv i ( . a ( a ) , . y ( w ) ) ; use inv j ( . a ( w ) , . y ( y ) ) ; end", "0: a=0; 1: a=1",
			"0: a=0 y=0 w=1 i.a=0 i.y=1 j.a=1 j.y=0; 1: a=1 y=1 w=0 i.a=1 i.y=0 j.a=0 j.y=1", "", "", "1 1 0 1 0 0 1", "time 1 deltas 12 runs 21",
		},
		{
			"a wire of itself", "module top ( ) wire w ; wire v ; assign w = ~ w ; assign v = v ; end", "", "0: w=x", "", "", "x z", "time 0 deltas 2 runs 3",
		},
		{
			"64 bits", "module top ( in [ 64 ] a , out [ 64 ] y ) assign y [ 63 : 1 ] = a [ 62 : 0 ] ; assign y [ 0 ] = a [ 63 ] ; end", "0: a=1" + strings.Repeat("0z", 31) + "x",
			"0: a=1" + strings.Repeat("0z", 31) + "x y=" + strings.Repeat("0z", 31) + "x1", "", "", "*", "time 0 deltas 1 runs 2",
		},
	})
}

func TestLookedUp(t *testing.T) {
	holdEvents(t, []eventCase{
		{
			"words", "module top ( in [ 3 ] i , out [ 2 ] y ) mem [ 2 ] m [ 5 ] ; assign y = m [ i ] ; start { m [ 4 ] = 3 ; m [ 0 ] = 1 ; } end", "1: i=100; 2: i=101; 3: i=111; 4: i=000; 5: i=0x0; 6: i=z00",
			"0: y=xx m[0]=01 m[4]=11; 1: i=100 y=11; 2: i=101 y=xx; 3: i=111; 4: i=000 y=01; 5: i=0x0 y=xx; 6: i=z00", "", "", "z00 xx 0100000011", "time 6 deltas 8 runs 9",
		},
		{
			"bits", "module top ( in [ 3 ] i , out y ) reg [ 5 ] r ; assign y = r [ i ] ; start { r = 5'b1x0z0 ; } end", "0: i=000; 1: i=001; 2: i=011; 3: i=100; 4: i=101; 5: i=00x",
			"0: i=000 y=0 r=1x0z0; 1: i=001 y=z; 2: i=011 y=x; 3: i=100 y=1; 4: i=101 y=x; 5: i=00x", "", "", "00x x 1x0z0", "time 5 deltas 7 runs 8",
		},
		{
			"words that are set", "module top ( in clk , in [ 3 ] i ) mem [ 2 ] m [ 5 ] ; on clk { m [ i ] <= 3 ; m [ i + 3'd1 ] = 1 ; } end", "0: i=100; 1: clk=1; 2: clk=0 i=0z1; 3: clk=1; 4: clk=0 i=111; 5: clk=1",
			"0: i=100; 1: clk=1 m[4]=11; 2: clk=0 i=0z1; 3: clk=1; 4: clk=0 i=111; 5: clk=1 m[0]=01", "", "", "1 111 0100000011", "time 5 deltas 3 runs 3",
		},
		{
			"bits that are set", "module top ( in clk , in [ 4 ] i ) reg [ 5 ] r = 0 ; reg [ 5 ] q = 0 ; on clk { r [ i ] <= 1'bz ; q [ i ] = 1'bx ; } end", "0: i=0100; 1: clk=1; 2: clk=0 i=0101; 3: clk=1; 4: clk=0 i=000x; 5: clk=1; 6: clk=0 i=0000; 7: clk=1",
			"0: i=0100; 1: clk=1 r=z0000 q=x0000; 2: clk=0 i=0101; 3: clk=1; 4: clk=0 i=000x; 5: clk=1; 6: clk=0 i=0000; 7: clk=1 r=z000z q=x000x", "", "", "1 0000 z000z x000x", "time 7 deltas 4 runs 4",
		},
		{
			"a great index", "module top ( in [ 64 ] i ) reg [ 64 ] r = 0 ; mem m [ 64 ] ; reg [ 2 ] s ; comb { s = { r [ i ] , m [ i ] } ; } start { wait 1 ; r [ i ] = 1 ; m [ i ] = 1 ; wait 1 ; r [ i ] = 1 ; m [ i ] = 1 ; } end",
			"0: i=1" + zeros(63) + "; 2: i=" + zeros(58) + "111111",
			"0: i=1" + zeros(63) + "; 2: i=" + zeros(58) + "111111 r=1" + zeros(63) + " m[63]=1 s=11", "", "", "*", "time 2 deltas 4 runs 6",
		},
		{
			"a negative index is a great one", "module top ( in signed [ 2 ] i , out y ) reg [ 4 ] r = 4'b1000 ; assign y = r [ i ] ; end", "0: i=11", "0: i=11 y=1", "", "", "11 1 1000", "time 0 deltas 1 runs 1",
		},
		{
			"a test of x", "module top ( in [ 2 ] a ) reg [ 2 ] r ; comb { if a { r = 1 ; } else { r = 2 ; } } end", "0: a=xx; 1: a=x1; 2: a=z0; 3: a=1z",
			"0: r=10; 1: a=x1 r=01; 2: a=z0 r=10; 3: a=1z r=01", "", "", "1z 01", "time 3 deltas 4 runs 4",
		},
	})
}

func TestChecks(t *testing.T) {
	holdEvents(t, []eventCase{
		{
			"at the end of a time step", "module top ( in clk ) reg a = 0 ; reg b = 1 ; check one = a ^ b ; on clk { a <= ~ a ; } comb { b = ~ a ; } check two = a ; check three = b ; end", "1: clk=1; 2: clk=0; 3: clk=1",
			"1: clk=1 a=1 b=0; 2: clk=0; 3: clk=1 a=0 b=1", "", "0: two; 1: three; 2: three; 3: two", "1 0 1", "time 3 deltas 5 runs 5",
		},
		{
			"what has not the truth 1", "module top ( in [ 2 ] a ) check c = a ; check d = ~ a ; end", "0: a=00; 1: a=x0; 2: a=x1; 3: a=zz; 4: a=11; 5: a=10",
			"*", "", "0: c; 1: c; 2: d; 3: c d; 4: d", "10", "time 5 deltas 0 runs 0",
		},
		{
			"at times in which nothing changes", "module top ( in a ) check c = a ; end", "0: a=0; 2: a=0; 5: a=0",
			"0: a=0", "", "0: c; 2: c; 5: c", "0", "time 5 deltas 0 runs 0",
		},
		{
			"of a memory", "module top ( ) mem [ 2 ] m [ 2 ] ; check c = m [ 1 ] == 2 ; start { wait 1 ; m [ 1 ] = 2 ; wait 1 ; m [ 1 ] = 0 ; wait 0 ; m [ 1 ] = 2 ; } end", "",
			"1: m[1]=10", "", "0: c", "0010", "time 2 deltas 4 runs 4",
		},
	})
}

func TestChanges(t *testing.T) {
	holdEvents(t, []eventCase{
		{
			"against the time step ahead", "module top ( in a ) reg r = 0 ; start { r = 1 ; wait 0 ; r = 0 ; wait 1 ; r = 1 ; wait 0 ; wait 1 ; r = 0 ; r <= 1 ; } end", "1: a=x; 2: a=0; 3: a=1 a=0",
			"1: r=1; 2: a=0", "", "", "0 1", "time 3 deltas 5 runs 5",
		},
		{
			"of an in at the beginning", "module top ( in a , in b ) end", "0: a=x b=0", "0: b=0", "", "", "x 0", "time 0 deltas 0 runs 0",
		},
		{
			"of words in order", "module top ( in clk ) mem [ 2 ] m [ 4 ] ; on clk { m [ 3 ] = 3 ; m [ 0 ] = 1 ; m [ 2 ] <= 2 ; m [ 1 ] = 1 ; m [ 1 ] = 0 ; } end", "1: clk=1",
			"1: clk=1 m[0]=01 m[2]=10 m[3]=11", "", "", "1 01001011", "time 1 deltas 1 runs 1",
		},
	})
	f := impl.Flat{Signals: []impl.Signal{
		{Name: "w", Kind: impl.SigWire, Width: 2, Init: "01"},
		{Name: "y", Kind: impl.SigOut, Width: 1, Init: "1"},
		{Name: "v", Kind: impl.SigOut, Width: 2, Init: "x0"},
		{Name: "r", Kind: impl.SigReg, Width: 2, Init: "xz"},
		{Name: "m", Kind: impl.SigMem, Width: 2, Depth: 2, Init: "1x"},
		{Name: "i", Kind: impl.SigIn, Width: 2, Init: "z1"},
	}, Procs: []impl.Proc{
		{Kind: impl.ProcAssign, Clock: -1, Body: setSt(impl.StSet, 1, 0, bitsEx("1"))},
		{Kind: impl.ProcAssign, Clock: -1, Body: setSt(impl.StSet, 2, 1, bitsEx("1"))},
	}}
	holdRun(t, eventCase{"wires against Init", "", "", "0: w=zz v=1z", "", "", "zz 1 1z xz 1x1x z1", "time 0 deltas 1 runs 2"}, f, nil)
	f.Procs = append(f.Procs, impl.Proc{Kind: impl.ProcOn, Clock: 1, Body: blockSt(setSt(impl.StSet, 3, 0, bitsEx("00")))})
	holdRun(t, eventCase{"a clock whose Init is 1 comes from z", "", "2: i=zz", "0: w=zz v=1z r=00; 2: i=zz", "", "", "zz 1 1z 00 1x1x zz", "time 2 deltas 2 runs 3"}, f, nil)
}

func TestSetLater(t *testing.T) {
	holdEvents(t, []eventCase{
		{
			"in the order in which it was set", "module top ( in clk ) reg [ 4 ] r = 0 ; on clk { r <= 15 ; r [ 1 ] <= 0 ; r [ 2 : 1 ] <= 2'bz1 ; r [ 0 ] <= 0 ; } end", "1: clk=1",
			"1: clk=1 r=1z10", "", "", "1 1z10", "time 1 deltas 1 runs 1",
		},
		{
			"over what is set at once", "module top ( in clk ) reg [ 2 ] r = 0 ; on clk { r [ 0 ] <= 1 ; r = 2 ; } end", "1: clk=1", "1: clk=1 r=11", "", "", "1 11", "time 1 deltas 1 runs 1",
		},
		{
			"in several deltas", "module top ( in clk ) reg [ 4 ] r = 0 ; reg a = 0 ; start { r <= 5 ; wait 0 ; r [ 1 : 0 ] <= 2 ; wait 0 ; r [ 3 ] <= 1 ; } end", "",
			"0: r=1110", "", "", "x 1110 0", "time 0 deltas 3 runs 3",
		},
		{
			"a chain", "module top ( in clk ) reg a = 0 ; reg b = 0 ; reg c = 0 ; on clk { a <= 1 ; b <= a ; c <= b ; } end", "1: clk=1; 2: clk=0; 3: clk=1; 4: clk=0; 5: clk=1",
			"1: clk=1 a=1; 2: clk=0; 3: clk=1 b=1; 4: clk=0; 5: clk=1 c=1", "", "", "1 1 1 1", "time 5 deltas 3 runs 3",
		},
		{
			"that wakes what sets later", "module top ( in clk ) reg a = 0 ; reg b = 0 ; reg c = 0 ; on clk { a <= 1 ; } on a { b <= 1 ; } on b { c <= 1 ; } end", "1: clk=1",
			"1: clk=1 a=1 b=1 c=1", "", "", "1 1 1 1", "time 1 deltas 3 runs 3",
		},
		{
			"of processes in their order", "module top ( in clk ) reg [ 2 ] r = 0 ; on clk { r <= 1 ; } on clk { r [ 1 ] <= 1 ; } on clk { r [ 1 ] <= 0 ; r [ 1 ] <= 1 ; } end", "1: clk=1",
			"1: clk=1 r=11", "1: later(r 0 1) later(r 0 2) later(r 1 2)", "", "1 11", "time 1 deltas 1 runs 3",
		},
	})
}

func TestLoopsWithoutEnd(t *testing.T) {
	for what, c := range map[string]struct {
		text string
		want int
	}{
		"a comb":                   {"module top ( in e ) reg a = 0 ; comb { a = ~ a ; } end", impl.ErrLoop},
		"a comb of x":              {"module top ( in e ) reg a ; comb { a = ~ a ; } end", impl.OK},
		"two combs":                {"module top ( in e ) reg a = 0 ; reg b = 0 ; comb { a = ~ b ; } comb { b = a ; } end", impl.ErrLoop},
		"two combs that agree":     {"module top ( in e ) reg a = 0 ; reg b = 0 ; comb { a = ~ b ; } comb { b = ~ a ; } end", impl.ErrLoop},
		"two that hold each other": {"module top ( in e ) reg a = 0 ; reg b = 1 ; comb { a = ~ b ; } comb { b = ~ a ; } end", impl.OK},
		"assigns":                  {"module top ( in e ) wire a ; reg b = 0 ; assign a = ~ b ; comb { b = a ; } end", impl.ErrLoop},
		"only once it is let":      {"module top ( in e ) wire a ; reg b = 0 ; assign a = ~ b ; comb { if e { b = a ; } } end", impl.ErrLoop},
		"never let":                {"module top ( in f , in e ) wire a ; reg b = 0 ; assign a = ~ b ; comb { if e { b = a ; } } end", impl.OK},
		"by what is set later":     {"module top ( in e ) reg a = 0 ; wire k ; assign k = ~ a & e ; on k { a <= 1 ; } on a { a <= 0 ; } end", impl.ErrLoop},
		"stopped all the same":     {"module top ( in e ) reg a = 0 ; start { stop ; } comb { a = ~ a ; } end", impl.ErrLoop},
		"a stop ahead":             {"module top ( in e ) reg a = 0 ; start { stop ; } comb { if e { a = ~ a ; } } end", impl.OK},
	} {
		f := flatOf(t, c.text)
		stims := []impl.Stim{{Time: 3, Sig: 0, Bits: "1"}}
		if _, code := holdSimulated(t, f, stims, 9, nil); code != c.want {
			t.Errorf("%s: code %d, want %d", what, code, c.want)
		}
	}
}
