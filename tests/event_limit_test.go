package tests

import (
	"fmt"
	"slices"
	"strings"
	"testing"

	"loop.example/g00031/impl"
)

func TestEventLimits(t *testing.T) {
	for _, pair := range [][2]int{
		{impl.MaxTime, 1000000}, {impl.MaxDeltas, 500}, {impl.MaxRuns, 20000}, {impl.MaxChanges, 8192}, {impl.MaxRaces, 64},
		{impl.RaceSet, 1}, {impl.RaceRead, 2}, {impl.RaceLater, 3},
	} {
		if pair[0] != pair[1] {
			t.Errorf("%d, want %d", pair[0], pair[1])
		}
	}
}

func TestMaxTime(t *testing.T) {
	f := flatOf(t, "module top ( in a ) reg r = 0 ; reg s = 0 ; start { wait 1000000 ; r = 1 ; } start { wait 999999 ; s = 1 ; wait 2 ; s = 0 ; } start { wait 1000000 ; wait 1000000 ; stop ; } end")
	for _, c := range []struct {
		stim, until int
		code        int
		changes     string
	}{
		{1000000, 1000000, impl.OK, "999999: s=1; 1000000: a=1 r=1"},
		{1000000, 999999, impl.OK, "999999: s=1"},
		{1000000, 0, impl.OK, ""},
		{0, 0, impl.OK, "0: a=1"},
		{1000001, 1000000, impl.ErrBad, ""},
		{1000000, 1000001, impl.ErrRange, ""},
		{1000001, 1000001, impl.ErrBad, ""},
		{0, -1, impl.ErrRange, ""},
		{-1, 0, impl.ErrBad, ""},
		{0, 1 << 62, impl.ErrRange, ""},
		{0, -1 << 63, impl.ErrRange, ""},
		{-1 << 63, 9, impl.ErrBad, ""},
		{1<<63 - 1, 9, impl.ErrBad, ""},
	} {
		r, code := holdSimulated(t, f, []impl.Stim{{Time: c.stim, Sig: 0, Bits: "1"}}, c.until, nil)
		if code != c.code || changesShown(f, r.Changes) != c.changes {
			t.Errorf("%d until %d: code %d, %s", c.stim, c.until, code, changesShown(f, r.Changes))
		}
	}
	f.Procs[0].Body.Kids[0].N++
	if _, code := holdSimulated(t, f, nil, 5, nil); code != impl.ErrBad {
		t.Errorf("a longer wait: code %d", code)
	}
}

func TestMaxDeltas(t *testing.T) {
	for _, c := range []struct {
		what, items  string
		code, deltas int
	}{
		{"500", "start { for k = 1 .. 499 { wait 0 ; } }", impl.OK, 500},
		{"501", "start { for k = 1 .. 500 { wait 0 ; } }", impl.ErrLoop, 0},
		{"of each time", "start { for k = 1 .. 499 { wait 0 ; } wait 1 ; for k = 1 .. 499 { wait 0 ; } }", impl.OK, 1000},
		{"of a later time", "start { wait 4 ; for k = 1 .. 499 { wait 0 ; } wait 1 ; for k = 1 .. 500 { wait 0 ; } }", impl.ErrLoop, 0},
		{"behind until", "start { wait 20 ; wait 1 ; for k = 1 .. 500 { wait 0 ; } }", impl.OK, 2},
		{"in all behind what is set later", "start { for k = 1 .. 498 { wait 0 ; } a <= 1 ; } on a { a <= 0 ; }", impl.OK, 500},
		{"one more behind what is set later", "start { for k = 1 .. 499 { wait 0 ; } a <= 1 ; } on a { a <= 0 ; }", impl.ErrLoop, 0},
		{"what is set later at the end", "start { for k = 1 .. 499 { wait 0 ; } a <= 1 ; }", impl.OK, 500},
		{"a comb that ends", "reg [ 9 ] n = 0 ; comb { if n < 499 { n = n + 1 ; } }", impl.OK, 500},
		{"a comb that ends too late", "reg [ 9 ] n = 0 ; comb { if n < 500 { n = n + 1 ; } }", impl.ErrLoop, 0},
	} {
		f := flatOf(t, "module top ( ) reg a = 0 ; "+c.items+" end")
		r, code := holdSimulated(t, f, nil, 20, nil)
		if code != c.code || r.Deltas != c.deltas {
			t.Errorf("%s: code %d, %d deltas", c.what, code, r.Deltas)
		}
	}
}

// toggled has a stim of the in 0 at each time from 0 on.
func toggled(count int) []impl.Stim {
	var all []impl.Stim
	for time := range count {
		all = append(all, impl.Stim{Time: time, Sig: 0, Bits: fmt.Sprint(time % 2)})
	}
	return all
}

func TestMaxRuns(t *testing.T) {
	combs := func(count int) string { return strings.Repeat("comb { if a { } } ", count) }
	for _, c := range []struct {
		what, items string
		code, runs  int
	}{
		{"fewer", combs(99), impl.OK, 19800},
		{"as many", combs(100), impl.OK, 20000},
		{"one more", combs(100) + "start { wait 199 ; }", impl.ErrWork, 0},
		{"one more at once", combs(100) + "start { }", impl.ErrWork, 0},
		{"one more behind until", combs(99) + "start { for k = 1 .. 199 { wait 1 ; } wait 1 ; }", impl.OK, 20000},
		{"one more, told by the last delta", combs(99) + "start { for k = 1 .. 199 { wait 1 ; } wait 0 ; }", impl.ErrWork, 0},
		{"checks do not count", combs(100) + "check c = a ;", impl.OK, 20000},
	} {
		f := flatOf(t, "module top ( in a ) "+c.items+" end")
		r, code := holdSimulated(t, f, toggled(200), 199, nil)
		if code != c.code || r.Runs != c.runs {
			t.Errorf("%s: code %d, %d runs", c.what, code, r.Runs)
		}
	}
}

// Of both faults the one that is met first counts.
func TestLoopOrWork(t *testing.T) {
	for count, want := range map[int]int{1: impl.ErrLoop, 40: impl.ErrLoop, 41: impl.ErrWork} {
		var items strings.Builder
		for i := range count {
			fmt.Fprintf(&items, "reg a%d = 0 ; comb { a%d = ~ a%d ; } ", i, i, i)
		}
		f := flatOf(t, "module top ( ) "+items.String()+" end")
		if _, code := holdSimulated(t, f, nil, 3, nil); code != want {
			t.Errorf("%d: code %d, want %d", count, code, want)
		}
	}
}

func TestMaxChanges(t *testing.T) {
	for _, c := range []struct {
		what, items    string
		code           int
		changes, fails int
	}{
		{"as many changes", "assign y = a ;", impl.OK, 8192, 0},
		{"one more change", "assign y = a ; reg r = 0 ; start { wait 4095 ; r = 1 ; }", impl.ErrMany, 0, 0},
		{"one more at the beginning", "assign y = a ; reg r = 0 ; start { r = 1 ; }", impl.ErrMany, 0, 0},
		{"as many fails", "check c = 0 ; check d = 0 ;", impl.OK, 4096, 8192},
		{"one more fail", "check c = 0 ; check d = 0 ; reg r = 0 ; start { wait 1 ; r = 1 ; } check e = r ;", impl.ErrMany, 0, 0},
		{"as many of both", "assign y = a ; check c = 0 ; check d = 0 ;", impl.OK, 8192, 8192},
		{"changes that come to nothing", "assign y = a ; reg r = 0 ; start { wait 4095 ; r = 1 ; wait 0 ; r = 0 ; }", impl.OK, 8192, 0},
	} {
		f := flatOf(t, "module top ( in a , out y ) "+c.items+" end")
		r, code := holdSimulated(t, f, toggled(4096), 5000, nil)
		if code != c.code || len(r.Changes) != c.changes || len(r.Fails) != c.fails {
			t.Errorf("%s: code %d, %d changes, %d fails", c.what, code, len(r.Changes), len(r.Fails))
		}
	}
}

func TestManyStims(t *testing.T) {
	f := flatOf(t, "module top ( in a ) end")
	same := slices.Repeat([]impl.Stim{{Sig: 0, Bits: "1"}}, 4097)
	if r, code := holdSimulated(t, f, same[:4096], 0, nil); code != impl.OK || len(r.Changes) != 1 {
		t.Errorf("4096 stims: code %d, %d changes", code, len(r.Changes))
	}
	if _, code := holdSimulated(t, f, same, 0, nil); code != impl.ErrLong {
		t.Errorf("4097 stims: code %d", code)
	}
	same[0].Sig = 9
	if _, code := holdSimulated(t, impl.Flat{Procs: []impl.Proc{{}}}, same, -1, []int{5}); code != impl.ErrLong {
		t.Errorf("4097 stims and all else wrong: code %d", code)
	}
}

func TestGreatestFlats(t *testing.T) {
	var f impl.Flat
	f.Signals = append(f.Signals, impl.Signal{Name: "clk", Kind: impl.SigIn, Width: 1, Init: "0"})
	for i := range 255 {
		f.Signals = append(f.Signals, impl.Signal{Name: fmt.Sprint(i), Kind: impl.SigMem, Width: 64, Depth: 64, Init: zeros(64)})
		index := bitsEx(impl.BitsOf(i%64, 6))
		f.Procs = append(f.Procs, impl.Proc{Kind: impl.ProcOn, Clock: 0, Body: blockSt(
			setSt(impl.StLater, i+1, 0, bitsEx(strings.Repeat("1x", 32)), index),
			setSt(impl.StSet, 255-i, 0, impl.Ex{Op: impl.OpMem, Width: 64, N: i + 1, Kids: []impl.Ex{index}}, bitsEx("000000")),
		)})
	}
	f.Procs = append(f.Procs, impl.Proc{Kind: impl.ProcCheck, Clock: -1, Name: "c", Body: impl.St{Kind: impl.StCheck, Exs: []impl.Ex{sigEx(0, 1)}}})
	stims := []impl.Stim{{Time: 1, Sig: 0, Bits: "1"}, {Time: 2, Sig: 0, Bits: "0"}, {Time: 3, Sig: 0, Bits: "1"}}
	order := rising(256)
	slices.Reverse(order)
	for _, order := range [][]int{nil, order} {
		r, code := holdSimulated(t, f, stims, 5, order)
		if code != impl.OK || len(r.Races) != 64 || r.Runs != 510 || len(r.Final[255]) != 4096 {
			t.Errorf("code %d, %d races, %d runs, %d bits", code, len(r.Races), r.Runs, len(r.Final[255]))
		}
	}
}

func TestWrongSimulations(t *testing.T) {
	f := theFlat()
	right := []impl.Stim{{Time: 2, Sig: 0, Bits: "1"}, {Time: 2, Sig: 1, Bits: "01xz"}, {Time: 7, Sig: 0, Bits: "z"}}
	none := theFlat()
	none.Signals[0].Width = 65
	bad := func(change func(s *impl.Stim)) []impl.Stim {
		stims := slices.Clone(right)
		change(&stims[1])
		return stims
	}
	for what, c := range map[string]struct {
		f     impl.Flat
		stims []impl.Stim
		until int
		order []int
		want  int
	}{
		"all right":                  {f, right, 9, nil, impl.OK},
		"no list":                    {f, []impl.Stim{}, 9, []int{}, impl.OK},
		"nothing at all":             {impl.Flat{}, nil, 0, nil, impl.OK},
		"nothing, but stims":         {impl.Flat{}, right, 0, nil, impl.ErrBad},
		"no flat design":             {none, right, 9, nil, impl.ErrBad},
		"no flat design, until":      {none, right, -1, nil, impl.ErrBad},
		"time below 0":               {f, bad(func(s *impl.Stim) { s.Time = -1 }), 9, nil, impl.ErrBad},
		"time falls":                 {f, bad(func(s *impl.Stim) { s.Time = 1 }), 9, nil, impl.ErrBad},
		"time rises":                 {f, bad(func(s *impl.Stim) { s.Time = 7 }), 9, nil, impl.OK},
		"the next time falls":        {f, bad(func(s *impl.Stim) { s.Time = 8 }), 9, nil, impl.ErrBad},
		"a signal below":             {f, bad(func(s *impl.Stim) { s.Sig = -1 }), 9, nil, impl.ErrBad},
		"a signal above":             {f, bad(func(s *impl.Stim) { s.Sig = 6 }), 9, nil, impl.ErrBad},
		"a signal far above":         {f, bad(func(s *impl.Stim) { s.Sig = 1<<63 - 1 }), 9, nil, impl.ErrBad},
		"a signal far below":         {f, bad(func(s *impl.Stim) { s.Sig = -1 << 63 }), 9, nil, impl.ErrBad},
		"an out":                     {f, bad(func(s *impl.Stim) { s.Sig = 2 }), 9, nil, impl.ErrBad},
		"a wire":                     {f, bad(func(s *impl.Stim) { s.Sig, s.Bits = 3, "000" }), 9, nil, impl.ErrBad},
		"a reg":                      {f, bad(func(s *impl.Stim) { s.Sig = 4 }), 9, nil, impl.ErrBad},
		"a memory":                   {f, bad(func(s *impl.Stim) { s.Sig, s.Bits = 5, "00" }), 9, nil, impl.ErrBad},
		"no bits":                    {f, bad(func(s *impl.Stim) { s.Bits = "" }), 9, nil, impl.ErrBad},
		"few bits":                   {f, bad(func(s *impl.Stim) { s.Bits = "000" }), 9, nil, impl.ErrBad},
		"many bits":                  {f, bad(func(s *impl.Stim) { s.Bits = "00000" }), 9, nil, impl.ErrBad},
		"no vector":                  {f, bad(func(s *impl.Stim) { s.Bits = "00X0" }), 9, nil, impl.ErrBad},
		"stims behind until":         {f, bad(func(s *impl.Stim) { s.Bits = "00X0" }), 0, nil, impl.ErrBad},
		"a stim and until":           {f, bad(func(s *impl.Stim) { s.Bits = "00X0" }), -1, nil, impl.ErrBad},
		"until below":                {f, right, -1, nil, impl.ErrRange},
		"until above":                {f, right, 1000001, nil, impl.ErrRange},
		"until and order":            {f, right, -1, []int{0}, impl.ErrRange},
		"any order":                  {f, right, 9, []int{4, 2, 0, 3, 1}, impl.OK},
		"order without the check":    {f, right, 9, []int{3, 2, 0, 1}, impl.ErrBad},
		"order with one twice":       {f, right, 9, []int{4, 2, 0, 2, 1}, impl.ErrBad},
		"order with one more":        {f, right, 9, []int{4, 2, 0, 3, 1, 5}, impl.ErrBad},
		"order with one twice more":  {f, right, 9, []int{4, 2, 0, 3, 1, 0}, impl.ErrBad},
		"order below":                {f, right, 9, []int{4, 2, 0, 3, -1}, impl.ErrBad},
		"order above":                {f, right, 9, []int{4, 2, 0, 3, 5}, impl.ErrBad},
		"order far above":            {f, right, 9, []int{4, 2, 0, 3, 1<<63 - 1}, impl.ErrBad},
		"order far below":            {f, right, 9, []int{4, 2, 0, 3, -1 << 63}, impl.ErrBad},
		"an order of nothing":        {impl.Flat{}, nil, 9, []int{0}, impl.ErrBad},
		"an order that is very long": {f, right, 9, rising(5000), impl.ErrBad},
	} {
		r, code := holdSimulated(t, c.f, c.stims, c.until, c.order)
		if code != c.want {
			t.Errorf("%s: code %d, want %d", what, code, c.want)
		}
		if code != impl.OK && resShown(r) != resShown(impl.SimRes{}) {
			t.Errorf("%s: %s", what, resShown(r))
		}
	}
}
