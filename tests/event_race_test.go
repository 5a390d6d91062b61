package tests

import (
	"fmt"
	"strings"
	"testing"

	"loop.example/g00031/impl"
)

// raceCase has items behind clk, i and what they set; clk becomes 1 at 1, 3, 5, and i 0, 1, x, in turn.
type raceCase struct{ what, items, races string }

const raceScene = "module top ( in clk , in [ 2 ] i ) reg [ 4 ] r = 0 ; reg [ 4 ] q = 0 ; mem [ 2 ] m [ 3 ] ; reg c = 0 ; "

func holdRaces(t *testing.T, cases []raceCase) {
	t.Helper()
	for _, c := range cases {
		f := flatOf(t, raceScene+c.items+" end")
		stims := "0: clk=0 i=00; 1: clk=1; 2: clk=0 i=01; 3: clk=1; 4: clk=0 i=0x; 5: clk=1"
		holdRun(t, eventCase{c.what, "", stims, "*", c.races, "*", "*", "*"}, f, nil)
	}
}

func TestRacesOfSets(t *testing.T) {
	holdRaces(t, []raceCase{
		{"one bit", "on clk { r = 1 ; } on clk { r [ 2 ] = 0 ; }", "1: set(r 0 1)"},
		{"one value", "on clk { r = 1 ; } on clk { r = 1 ; }", "1: set(r 0 1)"},
		{"other bits", "on clk { r [ 1 : 0 ] = 1 ; } on clk { r [ 3 : 2 ] = 0 ; }", ""},
		{"parts that meet", "on clk { r [ 2 : 0 ] = 1 ; } on clk { r [ 3 : 2 ] = 0 ; }", "1: set(r 0 1)"},
		{"behind other sets", "on clk { r [ 0 ] = 1 ; r [ 3 ] = 0 ; } on clk { r [ 1 ] = 1 ; r [ 3 ] = 1 ; }", "1: set(r 0 1)"},
		{"by an index", "on clk { r [ i ] = 1 ; } on clk { r [ 1 ] = 0 ; }", "3: set(r 0 1)"},
		{"by two indexes", "on clk { q [ i ] = 1 ; } on clk { q [ i ] = 0 ; }", "1: set(q 0 1)"},
		{"an index that is not known", "on clk { if i === 2'b0x { r [ i ] = 1 ; } } on clk { r = 0 ; }", ""},
		{"an index that is too great", "on clk { r [ i + 4 ] = 1 ; } on clk { r = 0 ; }", ""},
		{"words", "on clk { m [ 1 ] = 1 ; } on clk { m [ i ] = 0 ; }", "3: set(m 0 1)"},
		{"other words", "on clk { m [ 2 ] = 1 ; } on clk { m [ i ] = 0 ; }", ""},
		{"words by an index that is too great", "on clk { m [ 3 + i ] = 1 ; } on clk { m [ 3 + i ] = 0 ; }", ""},
		{"three", "on clk { r = 1 ; } on clk { r = 1 ; } on clk { r [ 0 ] = 1 ; }", "1: set(r 0 1) set(r 0 2) set(r 1 2)"},
		{"three of which two meet", "on clk { r [ 0 ] = 1 ; } on clk { r [ 1 : 0 ] = 1 ; } on clk { r [ 1 ] = 1 ; }", "1: set(r 0 1) set(r 1 2)"},
		{"one process", "on clk { r = 1 ; r = 2 ; }", ""},
		{"other deltas", "on clk { r = 1 ; c = 1 ; } on c { r = 2 ; }", ""},
		{"a comb and an on", "comb { r = i ; } on clk { c = ~ c ; } on clk { r = 2 ; }", ""},
		{"a comb and a start", "comb { r = i ; } start { r = 2 ; }", "0: set(r 0 1)"},
		{"two combs", "comb { r [ 1 : 0 ] = i ; } comb { r [ 2 : 1 ] = i ; }", "0: set(r 0 1)"},
		{"one at once, one later", "on clk { r = 1 ; } on clk { r <= 2 ; }", ""},
		{"wires are none", "wire w ; assign w = clk ; assign w = ~ clk ;", ""},
	})
}

func TestRacesOfReads(t *testing.T) {
	holdRaces(t, []raceCase{
		{"an on", "on clk { r = 1 ; } on clk { q <= r ; }", "1: read(r 0 1)"},
		{"another bit", "on clk { r [ 0 ] = 1 ; } on clk { q <= r [ 3 ] ; }", "1: read(r 0 1)"},
		{"another word", "on clk { m [ 0 ] = 1 ; } on clk { q <= m [ 2 ] ; }", "1: read(m 0 1)"},
		{"a word that is none", "on clk { m [ 0 ] = 1 ; } on clk { q <= m [ i + 4 ] ; }", "1: read(m 0 1)"},
		{"a bit that is none", "on clk { r [ 0 ] = 1 ; } on clk { q <= r [ i + 4 ] ; }", "1: read(r 0 1)"},
		{"a start", "comb { r = 1 ; } start { q = r ; }", "0: read(r 0 1)"},
		{"a start on its way", "on clk { r = 1 ; } start { q = r ; wait 3 ; c = r [ 0 ] ; }", "3: read(r 0 1)"},
		{"a start at another time", "on clk { r = 1 ; } start { q = r ; wait 2 ; c = r [ 0 ] ; }", ""},
		{"a comb does not count", "on clk { r = r + 1 ; } on clk { c = ~ c ; } comb { q = r + c ; }", ""},
		{"an assign does not count", "start { r = 1 ; } wire w ; assign w = r [ 0 ] ;", ""},
		{"a comb that sets", "comb { r [ i ] = c ; } on clk { c = 1 ; } on c { q = r ; }", "1: read(r 0 2)"},
		{"in a test", "on clk { r = 1 ; } on clk { if r { q = 1 ; } }", "1: read(r 0 1)"},
		{"in an index of a set", "on clk { r = 1 ; } on clk { q [ r ] = 1 ; }", "1: read(r 0 1)"},
		{"in an index of a set that sets nothing", "on clk { r = 1 ; } on clk { q [ r + 4 ] <= 1 ; }", "1: read(r 0 1)"},
		{"in an index that is read by", "on clk { r = 1 ; } on clk { c <= q [ r ] ; }", "1: read(r 0 1)"},
		{"in a part that is not taken", "on clk { r = 1 ; } on clk { if i == 1 { q = r ; } }", "3: read(r 0 1)"},
		{"in a choice that is not taken", "on clk { r = 1 ; } on clk { q = 1 ? 0 : r ; }", "1: read(r 0 1)"},
		{"behind its own set", "on clk { r [ 0 ] = 1 ; } on clk { r [ 1 ] = 1 ; q = r ; }", "1: read(r 0 1)"},
		{"its own alone", "on clk { r = 1 ; q = r ; }", ""},
		{"both ways", "on clk { r [ 0 ] = q [ 1 ] ; } on clk { q [ 0 ] = r [ 1 ] ; }", "1: read(r 0 1) read(q 1 0)"},
		{"what is set later", "on clk { r <= 1 ; } on clk { q <= r ; }", ""},
		{"a set of nothing", "on clk { r [ i + 4 ] = 1 ; m [ i + 3 ] = 1 ; } on clk { q <= r + m [ 0 ] ; }", ""},
		{"a set of a bit by an index", "on clk { if i != 0 { r [ i ] = 1 ; } } on clk { q <= r ; }", "3: read(r 0 1)"},
		{"the clock is not read", "on clk { c = ~ c ; } on c { q = 1 ; }", ""},
		{"one delta later", "on clk { c = 1 ; } on c { q = c ; }", ""},
		{"several", "on clk { r = 1 ; q = 1 ; } on clk { c <= q [ 0 ] ; c <= r [ 0 ] ; } on clk { q [ 0 ] <= r [ 0 ] ; }", "1: read(r 0 1) read(r 0 2) read(q 0 1)"},
	})
}

func TestRacesOfSetsLater(t *testing.T) {
	holdRaces(t, []raceCase{
		{"one bit", "on clk { r <= 1 ; } on clk { r [ 2 ] <= 0 ; }", "1: later(r 0 1)"},
		{"other bits", "on clk { r [ 1 : 0 ] <= 1 ; } on clk { r [ 3 : 2 ] <= 0 ; }", ""},
		{"by an index", "on clk { r [ i ] <= 1 ; } on clk { r [ 1 ] <= 0 ; }", "3: later(r 0 1)"},
		{"an index that is none", "on clk { r [ i + 4 ] <= 1 ; m [ i + 3 ] <= 1 ; } on clk { r <= 0 ; m [ i + 3 ] <= 1 ; }", ""},
		{"words", "on clk { m [ 1 ] <= 1 ; } on clk { m [ i ] <= 0 ; }", "3: later(m 0 1)"},
		{"one process", "on clk { r <= 1 ; r <= 2 ; }", ""},
		{"in other deltas of one doing", "on clk { r <= 1 ; c = 1 ; } on c { r [ 0 ] <= 0 ; }", "1: later(r 0 1)"},
		{"behind the doing", "on clk { r <= 1 ; c <= 1 ; } on c { r [ 0 ] <= 0 ; }", ""},
		{"a start that goes on", "start { r <= 1 ; wait 0 ; r <= 2 ; } start { wait 0 ; wait 0 ; r [ 3 ] <= 1 ; }", "0: later(r 0 1)"},
		{"three", "on clk { r <= 1 ; } on clk { r <= 1 ; } on clk { r [ 0 ] <= 1 ; }", "1: later(r 0 1) later(r 0 2) later(r 1 2)"},
	})
}

func TestOrderOfRaces(t *testing.T) {
	f := flatOf(t, raceScene+"on clk { q = 1 ; r = q ; m [ 1 ] = r ; } on clk { r = 2 ; m [ 1 ] = q ; q [ 0 ] <= 1 ; } on clk { r [ 3 ] = 1 ; q = r + m [ 0 ] ; q [ 1 : 0 ] <= 2 ; r <= 1 ; } on clk { r <= 0 ; } end")
	c := eventCase{"all", "", "1: clk=1; 2: clk=0; 3: clk=1",
		"*", "1: set(r 0 1) set(r 0 2) set(r 1 2) set(q 0 2) set(m 0 1) read(r 0 2) read(r 1 0) read(r 1 2) read(r 2 0) read(q 0 1) read(q 2 0) read(q 2 1) read(m 0 2) read(m 1 2) later(r 2 3) later(q 1 2)", "*", "*", "*"}
	holdRun(t, c, f, nil)
	holdRun(t, c, f, []int{3, 2, 1, 0})
	holdRun(t, c, f, []int{2, 0, 3, 1})
}

func TestRacesAreToldOnce(t *testing.T) {
	f := flatOf(t, raceScene+"on clk { r = 1 ; if i == 1 { q = 1 ; } } on clk { r = 2 ; if i == 1 { c = q [ 0 ] ; } } start { wait 5 ; r = 1 ; } start { c <= 0 ; wait 1 ; c <= 1 ; wait 0 ; c <= 1 ; } start { c <= 0 ; wait 2 ; wait 3 ; c <= q [ 1 ] ; } end")
	holdRun(t, eventCase{"at the time when it is first met", "", "0: clk=0 i=00; 1: clk=1; 2: clk=0 i=01; 3: clk=1; 4: clk=0; 5: clk=1; 6: clk=0; 7: clk=1",
		"*", "0: later(c 3 4); 1: set(r 0 1); 3: read(q 0 1); 5: set(r 0 2) set(r 1 2) read(q 0 4)", "*", "*", "*"}, f, nil)
}

// clashing has count on processes that set a reg, each a race with each.
func clashing(name string, count int, mark string) string {
	return strings.Repeat(fmt.Sprintf("on clk { %s %s 1 ; } ", name, mark), count)
}

func TestMaxRaces(t *testing.T) {
	if impl.MaxRaces != 64 {
		t.Errorf("MaxRaces %d", impl.MaxRaces)
	}
	clock := "1: clk=1; 2: clk=0; 3: clk=1"
	for _, c := range []struct {
		items string
		want  int
		last  impl.Race
	}{
		{clashing("r", 11, "=") + clashing("q", 4, "=") + clashing("c", 3, "="), 64, impl.Race{Time: 1, Kind: impl.RaceSet, Sig: 5, A: 16, B: 17}},
		{clashing("c", 2, "=") + clashing("r", 11, "=") + clashing("q", 5, "="), 64, impl.Race{Time: 1, Kind: impl.RaceSet, Sig: 3, A: 15, B: 17}},
		{clashing("q", 3, "<=") + clashing("r", 11, "=") + clashing("q", 4, "="), 64, impl.Race{Time: 1, Kind: impl.RaceLater, Sig: 3, A: 1, B: 2}},
		{clashing("r", 11, "=") + clashing("q", 5, "<=") + clashing("r [ 0 ]", 1, "<="), 64, impl.Race{Time: 1, Kind: impl.RaceLater, Sig: 3, A: 13, B: 15}},
		{clashing("r", 11, "<=") + clashing("q", 4, "<="), 61, impl.Race{Time: 1, Kind: impl.RaceLater, Sig: 3, A: 13, B: 14}},
		{clashing("r", 40, "="), 64, impl.Race{Time: 1, Kind: impl.RaceSet, Sig: 2, A: 1, B: 26}},
	} {
		f := flatOf(t, raceScene+c.items+" end")
		r, code := holdSimulated(t, f, stimsOf(f, clock), 9, nil)
		if code != impl.OK || len(r.Races) != c.want {
			t.Errorf("%s: code %d, %d races", c.items, code, len(r.Races))
		} else if last := r.Races[c.want-1]; last != c.last {
			t.Errorf("%s: last %v, want %v", c.items, last, c.last)
		}
	}
}
