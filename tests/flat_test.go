package tests

import (
	"fmt"
	"slices"
	"strings"
	"testing"

	"loop.example/g00031/impl"
)

// theFlat has a signal and a process of each kind, put together by hand.
func theFlat() impl.Flat {
	return impl.Flat{
		Signals: []impl.Signal{
			{Name: "clk", Kind: impl.SigIn, Width: 1, Init: "x"},
			{Name: "a", Kind: impl.SigIn, Width: 4, Init: "01xz"},
			{Name: "y", Kind: impl.SigOut, Width: 4, Signed: true, Init: "zzzz"},
			{Name: "w", Kind: impl.SigWire, Width: 3, Init: "zzz"},
			{Name: "r", Kind: impl.SigReg, Width: 4, Init: "0000"},
			{Name: "m", Kind: impl.SigMem, Width: 2, Depth: 8, Init: "00"},
		},
		Procs: []impl.Proc{
			{Kind: impl.ProcAssign, Clock: -1, Body: setSt(impl.StSet, 2, 0, sigEx(1, 4))},
			{Kind: impl.ProcComb, Clock: -1, Body: blockSt(setSt(impl.StSet, 4, 0, sigEx(1, 4)))},
			{Kind: impl.ProcOn, Clock: 0, Body: blockSt(setSt(impl.StLater, 4, 1, bitsEx("01")))},
			{Kind: impl.ProcStart, Clock: -1, Body: blockSt(impl.St{Kind: impl.StWait, N: 5}, impl.St{Kind: impl.StStop})},
			{Kind: impl.ProcCheck, Clock: -1, Name: "c", Body: impl.St{Kind: impl.StCheck, Exs: []impl.Ex{sigEx(0, 1)}}},
		},
	}
}

func sigEx(number, width int) impl.Ex { return impl.Ex{Op: impl.OpSig, Width: width, N: number} }

func setSt(kind, number, low int, exs ...impl.Ex) impl.St {
	return impl.St{Kind: kind, N: number, Low: low, Wide: exs[0].Width, Exs: exs}
}

func blockSt(kids ...impl.St) impl.St { return impl.St{Kind: impl.StBlock, Kids: kids} }

func ifSt(e impl.Ex, kids ...impl.St) impl.St {
	return impl.St{Kind: impl.StIf, Exs: []impl.Ex{e}, Kids: kids}
}

func wantsFlat(t *testing.T, what string, f impl.Flat, want bool) {
	t.Helper()
	if got := impl.FlatOK(f); got != want {
		t.Errorf("%s: %v", what, got)
	}
	if flatTold(f) != want {
		t.Errorf("%s: told otherwise", what)
	}
}

func TestFlatOK(t *testing.T) {
	wantsFlat(t, "nothing", impl.Flat{}, true)
	wantsFlat(t, "by hand", theFlat(), true)
	wantsFlat(t, "signals alone", impl.Flat{Signals: theFlat().Signals}, true)
	wantsFlat(t, "an empty process", impl.Flat{Procs: []impl.Proc{{}}}, false)
	wantsFlat(t, "an empty signal", impl.Flat{Signals: []impl.Signal{{}}}, false)
}

func TestFlatSignals(t *testing.T) {
	for what, c := range map[string]struct {
		change func(s *impl.Signal)
		want   bool
	}{
		"no name":            {func(s *impl.Signal) { s.Name = "" }, false},
		"any name":           {func(s *impl.Signal) { s.Name = "1 \n\xff" }, true},
		"longest name":       {func(s *impl.Signal) { s.Name = strings.Repeat("n", 1000) }, true},
		"long name":          {func(s *impl.Signal) { s.Name = strings.Repeat("n", 1001) }, false},
		"name twice":         {func(s *impl.Signal) { s.Name = "m" }, false},
		"a check's name":     {func(s *impl.Signal) { s.Name = "c" }, true},
		"kind 0":             {func(s *impl.Signal) { s.Kind = 0 }, false},
		"kind 6":             {func(s *impl.Signal) { s.Kind = 6 }, false},
		"kind below":         {func(s *impl.Signal) { s.Kind = -1 << 63 }, false},
		"kind above":         {func(s *impl.Signal) { s.Kind = 1<<32 + 3 }, false},
		"width 0":            {func(s *impl.Signal) { s.Width, s.Init = 0, "" }, false},
		"width 64":           {func(s *impl.Signal) { s.Width, s.Init = 64, zeros(64) }, true},
		"width 65":           {func(s *impl.Signal) { s.Width, s.Init = 65, zeros(65) }, false},
		"width below":        {func(s *impl.Signal) { s.Width = -3 }, false},
		"init short":         {func(s *impl.Signal) { s.Init = "zz" }, false},
		"init long":          {func(s *impl.Signal) { s.Init = "zzzz" }, false},
		"init lacks":         {func(s *impl.Signal) { s.Init = "" }, false},
		"init of others":     {func(s *impl.Signal) { s.Init = "0a1" }, false},
		"init of all":        {func(s *impl.Signal) { s.Init = "0x1" }, true},
		"signed":             {func(s *impl.Signal) { s.Signed = true }, true},
		"depth":              {func(s *impl.Signal) { s.Depth = 1 }, false},
		"depth below":        {func(s *impl.Signal) { s.Depth = -1 }, false},
		"memory":             {func(s *impl.Signal) { s.Kind, s.Depth = impl.SigMem, 1 }, true},
		"memory, full":       {func(s *impl.Signal) { s.Kind, s.Depth = impl.SigMem, 64 }, true},
		"memory, over":       {func(s *impl.Signal) { s.Kind, s.Depth = impl.SigMem, 65 }, false},
		"memory, no words":   {func(s *impl.Signal) { s.Kind = impl.SigMem }, false},
		"memory, words back": {func(s *impl.Signal) { s.Kind, s.Depth = impl.SigMem, -1 }, false},
	} {
		f := theFlat()
		c.change(&f.Signals[3])
		wantsFlat(t, what, f, c.want)
	}
}

// exFlat has an Ex in a check, beside the signals of theFlat.
func exFlat(e impl.Ex) impl.Flat {
	f := theFlat()
	f.Procs[4].Body.Exs[0] = e
	return f
}

func TestFlatExs(t *testing.T) {
	clk, a, w, r := sigEx(0, 1), sigEx(1, 4), sigEx(3, 3), sigEx(4, 4)
	memory := impl.Ex{Op: impl.OpMem, Width: 2, N: 5, Kids: []impl.Ex{a}}
	pick := impl.Ex{Op: impl.OpPick, Width: 1, N: 1, Kids: []impl.Ex{w}}
	with := func(e impl.Ex, change func(e *impl.Ex)) impl.Ex {
		e.Kids = slices.Clone(e.Kids)
		change(&e)
		return e
	}
	good := map[string]impl.Ex{"bits": bitsEx("01xz"), "one bit": bitsEx("z"), "64 bits": bitsEx(zeros(64)), "signal": a, "memory": memory, "pick": pick,
		"choose": ex(impl.OpChoose, 4, w, a, r), "choose, other": ex(impl.OpChoose, 3, a, w, w), "join": ex(impl.OpJoin, 8, w, a, clk), "join of one": ex(impl.OpJoin, 3, w),
		"wider": ex(impl.OpSize, 5, a), "wider, signed": signedEx(ex(impl.OpSize, 64, a), true), "less": ex(impl.OpSize, 3, a), "part": ex(impl.OpPart, 4, a)}
	for op := impl.OpAnd; op <= impl.OpRem; op++ {
		good[fmt.Sprint(op)] = ex(op, 4, a, r)
	}
	for op := impl.OpEq; op <= impl.OpLe; op++ {
		good[fmt.Sprint(op)] = ex(op, 1, a, r)
	}
	for op := impl.OpShl; op <= impl.OpSar; op++ {
		good[fmt.Sprint(op)] = ex(op, 4, a, w)
	}
	good["17"], good["18"] = ex(impl.OpBoth, 1, a, w), ex(impl.OpEither, 1, w, a)
	good["19"], good["20"] = ex(impl.OpNot, 4, a), ex(impl.OpNeg, 3, w)
	for op := impl.OpAll; op <= impl.OpNone; op++ {
		good[fmt.Sprint(op)] = ex(op, 1, a)
	}
	for what, e := range good {
		wantsFlat(t, what, exFlat(e), true)
		wantsFlat(t, what+" of no width", exFlat(with(e, func(e *impl.Ex) { e.Width = 0 })), false)
		wantsFlat(t, what+" of a width below", exFlat(with(e, func(e *impl.Ex) { e.Width = -e.Width })), false)
		wantsFlat(t, what+" of a great width", exFlat(with(e, func(e *impl.Ex) { e.Width = 65 })), false)
		wantsFlat(t, what+" with a kid more", exFlat(with(e, func(e *impl.Ex) { e.Kids = append(e.Kids, a) })), false)
		wantsFlat(t, what+" with N", exFlat(with(e, func(e *impl.Ex) { e.N += 7 })), false)
		wantsFlat(t, what+" with N below", exFlat(with(e, func(e *impl.Ex) { e.N = -1 })), false)
		wantsFlat(t, what+" with bits more", exFlat(with(e, func(e *impl.Ex) { e.Bits += "0" })), false)
		wantsFlat(t, what+" in a wrong one", exFlat(ex(impl.OpNot, e.Width+1, e)), false)
		if len(e.Kids) > 0 {
			wantsFlat(t, what+" with a kid less", exFlat(with(e, func(e *impl.Ex) { e.Kids = e.Kids[1:] })), false)
			wantsFlat(t, what+" with a kid of nothing", exFlat(with(e, func(e *impl.Ex) { e.Kids[0] = impl.Ex{} })), false)
		}
		signs := e.Op == impl.OpDiv || e.Op == impl.OpRem || e.Op == impl.OpLt || e.Op == impl.OpLe || e.Op == impl.OpSize && e.Width > 4
		wantsFlat(t, what+" signed", exFlat(signedEx(e, true)), signs)
		wantsFlat(t, what+" not signed", exFlat(signedEx(e, false)), true)
	}
	for op := impl.OpAnd; op <= impl.OpLe; op++ {
		width := 3 + numberIf(op < impl.OpEq)
		wantsFlat(t, "unlike operands", exFlat(ex(op, width, a, w)), false)
		wantsFlat(t, "a width of its own", exFlat(ex(op, 2, a, a)), false)
	}
	for _, op := range []int{-1 << 63, -1, 0, 33, 34, 1<<32 + 1, 1<<63 - 1} {
		wantsFlat(t, fmt.Sprint("op ", op), exFlat(ex(op, 4, a, a)), false)
		wantsFlat(t, fmt.Sprint("op ", op), exFlat(ex(op, 4)), false)
	}
	for what, e := range map[string]impl.Ex{
		"a shift of the right one's width": ex(impl.OpShl, 3, a, w),
		"a truth of two bits":              ex(impl.OpBoth, 2, a, a),
		"not of other width":               ex(impl.OpNot, 3, a),
		"all of its width":                 ex(impl.OpAll, 4, a),
		"choose of the first's width":      ex(impl.OpChoose, 3, w, a, a),
		"choose, unlike":                   ex(impl.OpChoose, 4, a, a, w),
		"choose, unlike the other way":     ex(impl.OpChoose, 4, a, w, a),
		"join too short":                   ex(impl.OpJoin, 6, w, a),
		"join of none":                     ex(impl.OpJoin, 1),
		"join too long":                    ex(impl.OpJoin, 65, bitsEx(zeros(64)), clk),
		"size of the same width":           ex(impl.OpSize, 4, a),
		"signed size of a wider one":       signedEx(ex(impl.OpSize, 3, a), true),
		"a signal of other width":          sigEx(1, 3),
		"a memory as a signal":             sigEx(5, 2),
		"a signal that is none":            sigEx(6, 1),
		"a memory of other width":          with(memory, func(e *impl.Ex) { e.Width = 3 }),
		"a signal as a memory":             with(memory, func(e *impl.Ex) { e.N, e.Width = 1, 4 }),
		"a pick of a memory":               with(pick, func(e *impl.Ex) { e.N = 5 }),
		"a pick of two bits":               with(pick, func(e *impl.Ex) { e.Width = 2 }),
		"bits of other width":              {Op: impl.OpBits, Width: 3, Bits: "0101"},
		"bits of other letters":            {Op: impl.OpBits, Width: 3, Bits: "01Z"},
		"no bits":                          {Op: impl.OpBits, Width: 1},
	} {
		wantsFlat(t, what, exFlat(e), false)
	}
	for _, c := range []struct {
		low, width int
		want       bool
	}{{0, 4, true}, {3, 1, true}, {1, 3, true}, {1, 4, false}, {4, 1, false}, {0, 5, false}, {-1, 2, false}, {1<<63 - 1, 1, false}, {1<<63 - 1, 4, false}, {-1 << 63, 4, false}} {
		e := ex(impl.OpPart, c.width, a)
		e.N = c.low
		wantsFlat(t, fmt.Sprint("part ", c), exFlat(e), c.want)
	}
}

// stFlat has a statement in a process of a kind, beside the signals of theFlat.
func stFlat(kind int, s impl.St) impl.Flat {
	f := impl.Flat{Signals: theFlat().Signals, Procs: []impl.Proc{{Kind: kind, Clock: -1, Body: s}}}
	switch kind {
	case impl.ProcOn:
		f.Procs[0].Clock = 0
	case impl.ProcCheck:
		f.Procs[0].Name = "c"
	}
	return f
}

func TestFlatStatementsByProcess(t *testing.T) {
	a := sigEx(1, 4)
	for what, c := range map[string]struct {
		st    impl.St
		procs string // of which it can be the body, and in whose it can be
	}{
		"block":           {blockSt(), "234 234"},
		"set of a reg":    {setSt(impl.StSet, 4, 0, a), " 234"},
		"set of a memory": {setSt(impl.StSet, 5, 0, bitsEx("01"), a), " 234"},
		"set of a bit":    {setSt(impl.StSet, 4, 0, bitsEx("0"), a), " 234"},
		"set of an out":   {setSt(impl.StSet, 2, 0, a), "1 "},
		"set of a wire":   {setSt(impl.StSet, 3, 1, bitsEx("01")), "1 "},
		"set of an in":    {setSt(impl.StSet, 1, 0, a), " "},
		"out's bit":       {setSt(impl.StSet, 2, 0, bitsEx("0"), a), " "},
		"later of a reg":  {setSt(impl.StLater, 4, 0, a), " 34"},
		"later of memory": {setSt(impl.StLater, 5, 0, bitsEx("01"), a), " 34"},
		"later of an out": {setSt(impl.StLater, 2, 0, a), " "},
		"if":              {ifSt(a, blockSt(), blockSt()), " 234"},
		"if of sets":      {ifSt(a, setSt(impl.StSet, 4, 0, a), ifSt(a, blockSt(), blockSt())), " 234"},
		"if of laters":    {ifSt(a, blockSt(), setSt(impl.StLater, 4, 0, a)), " 34"},
		"wait":            {impl.St{Kind: impl.StWait, N: 1}, " 4"},
		"stop":            {impl.St{Kind: impl.StStop}, " 4"},
		"check":           {impl.St{Kind: impl.StCheck, Exs: []impl.Ex{a}}, "5 "},
		"kind 0":          {impl.St{}, " "},
		"kind 8":          {impl.St{Kind: 8}, " "},
		"kind below":      {impl.St{Kind: -1 << 63}, " "},
		"kind above":      {impl.St{Kind: 1<<32 + 1}, " "},
	} {
		bodies, insides, _ := strings.Cut(c.procs, " ")
		for kind := 1; kind <= 5; kind++ {
			has := func(list string) bool { return strings.Contains(list, fmt.Sprint(kind)) }
			wantsFlat(t, fmt.Sprint(what, " as ", kind), stFlat(kind, c.st), has(bodies))
			wantsFlat(t, fmt.Sprint(what, " in ", kind), stFlat(kind, blockSt(c.st)), has(insides))
			wantsFlat(t, fmt.Sprint(what, " far in ", kind), stFlat(kind, blockSt(blockSt(), ifSt(a, blockSt(), blockSt(c.st)))), has(insides))
		}
	}
}

func TestFlatStatementFields(t *testing.T) {
	a, two := sigEx(1, 4), bitsEx("01")
	start := func(s impl.St) impl.Flat { return stFlat(impl.ProcStart, blockSt(s)) }
	for _, s := range []impl.St{blockSt(), ifSt(a, blockSt(), blockSt()), {Kind: impl.StWait}, {Kind: impl.StStop}} {
		wantsFlat(t, "plain", start(s), true)
		low, wide, exs := s, s, s
		low.Low, wide.Wide = 1, 1
		exs.Exs = append(slices.Clone(s.Exs), a)
		wantsFlat(t, "with Low", start(low), false)
		wantsFlat(t, "with Wide", start(wide), false)
		wantsFlat(t, "with an Ex", start(exs), false)
		if s.Kind != impl.StWait {
			s.N = 1
			wantsFlat(t, "with N", start(s), false)
		}
		if s.Kind != impl.StBlock {
			s.N, s.Kids = 0, append(slices.Clone(s.Kids), blockSt())
			wantsFlat(t, "with a kid", start(s), false)
		}
	}
	for n, want := range map[int]bool{0: true, 1000000: true, 1000001: false, -1: false, -1 << 63: false, 1<<63 - 1: false} {
		wantsFlat(t, fmt.Sprint("wait ", n), start(impl.St{Kind: impl.StWait, N: n}), want)
	}
	wantsFlat(t, "if of one", start(ifSt(a, blockSt())), false)
	wantsFlat(t, "if without", start(impl.St{Kind: impl.StIf, Kids: []impl.St{blockSt(), blockSt()}}), false)
	wantsFlat(t, "if of a wrong one", start(ifSt(sigEx(1, 3), blockSt(), blockSt())), false)
	for kind := impl.StSet; kind <= impl.StLater; kind++ {
		for what, c := range map[string]struct {
			st   impl.St
			want bool
		}{
			"low bits":              {setSt(kind, 4, 0, two), true},
			"high bits":             {setSt(kind, 4, 2, two), true},
			"bits above":            {setSt(kind, 4, 3, two), false},
			"bits below":            {setSt(kind, 4, -1, two), false},
			"bits far above":        {setSt(kind, 4, 1<<63-1, two), false},
			"bits far below":        {setSt(kind, 4, -1<<63, two), false},
			"more than all":         {setSt(kind, 4, 0, bitsEx("01010")), false},
			"no Ex":                 {impl.St{Kind: kind, N: 4, Wide: 2}, false},
			"no Wide":               {impl.St{Kind: kind, N: 4, Exs: []impl.Ex{two}}, false},
			"other Wide":            {impl.St{Kind: kind, N: 4, Wide: 3, Exs: []impl.Ex{two}}, false},
			"nothing":               {impl.St{Kind: kind, N: 4}, false},
			"a wrong Ex":            {setSt(kind, 4, 0, sigEx(1, 3)), false},
			"no signal":             {setSt(kind, 6, 0, two), false},
			"a signal below":        {setSt(kind, -1, 0, two), false},
			"a kid":                 {impl.St{Kind: kind, N: 4, Wide: 2, Exs: []impl.Ex{two}, Kids: []impl.St{blockSt()}}, false},
			"a bit":                 {setSt(kind, 4, 0, bitsEx("x"), a), true},
			"a bit at Low":          {setSt(kind, 4, 1, bitsEx("x"), a), false},
			"two bits looked up":    {setSt(kind, 4, 0, two, a), false},
			"a bit, a wrong index":  {setSt(kind, 4, 0, bitsEx("x"), sigEx(1, 3)), false},
			"a word":                {setSt(kind, 5, 0, two, a), true},
			"a word at Low":         {setSt(kind, 5, 1, two, a), false},
			"a bit of a word":       {setSt(kind, 5, 0, bitsEx("0"), a), false},
			"a memory":              {setSt(kind, 5, 0, two), false},
			"a word, a wrong index": {setSt(kind, 5, 0, two, impl.Ex{}), false},
			"a third Ex":            {setSt(kind, 5, 0, two, a, a), false},
			"a third Ex of a bit":   {setSt(kind, 4, 0, bitsEx("x"), a, a), false},
		} {
			wantsFlat(t, what, start(c.st), c.want)
		}
	}
}

func TestFlatProcesses(t *testing.T) {
	for place := range theFlat().Procs {
		f := theFlat()
		for _, clock := range []int{-2, -1, 0, 1, 2, 5, 6, 1<<63 - 1, -1 << 63} {
			f.Procs[place].Clock = clock
			want := clock == -1
			if place == 2 {
				want = clock == 0
			}
			wantsFlat(t, fmt.Sprint("clock ", clock, " of ", place), f, want)
		}
		f = theFlat()
		f.Procs[place].Name = "name"
		wantsFlat(t, fmt.Sprint("name of ", place), f, place == 4)
		f.Procs[place].Name = strings.Repeat("n", 1000)
		wantsFlat(t, fmt.Sprint("long name of ", place), f, place == 4)
		f.Procs[place].Name = strings.Repeat("n", 1001)
		wantsFlat(t, fmt.Sprint("longer name of ", place), f, false)
		f.Procs[place].Name = ""
		wantsFlat(t, fmt.Sprint("no name of ", place), f, place != 4)
		f = theFlat()
		for _, kind := range []int{-1, 0, 6, 1<<32 + 1} {
			f.Procs[place].Kind = kind
			wantsFlat(t, fmt.Sprint("kind ", kind, " of ", place), f, false)
		}
		f = theFlat()
		f.Procs = append(f.Procs, f.Procs[place])
		wantsFlat(t, fmt.Sprint("twice ", place), f, place != 4)
	}
	f := theFlat()
	f.Procs = append(f.Procs, f.Procs[4])
	f.Procs[5].Name = "r"
	wantsFlat(t, "a signal's name", f, true)
	// a memory of one bit is no clock
	f = theFlat()
	f.Signals[5].Width, f.Signals[5].Init, f.Procs[2].Clock = 1, "0", 5
	wantsFlat(t, "a memory as a clock", f, false)
	f.Procs[2].Clock = 0
	wantsFlat(t, "a memory of one bit", f, true)
}

func TestFlatLimits(t *testing.T) {
	var f impl.Flat
	for i := range impl.MaxSignals {
		f.Signals = append(f.Signals, impl.Signal{Name: fmt.Sprint(i), Kind: impl.SigReg, Width: 1, Init: "0"})
	}
	for range impl.MaxProcs {
		f.Procs = append(f.Procs, impl.Proc{Kind: impl.ProcComb, Clock: -1, Body: blockSt()})
	}
	wantsFlat(t, "all full", f, true)
	more := f
	more.Signals = append(slices.Clone(f.Signals), impl.Signal{Name: "more", Kind: impl.SigReg, Width: 1, Init: "0"})
	wantsFlat(t, "a signal more", more, false)
	more = f
	more.Procs = append(slices.Clone(f.Procs), f.Procs[0])
	wantsFlat(t, "a process more", more, false)
	for _, size := range []int{impl.MaxSize - 1, impl.MaxSize, impl.MaxSize + 1} {
		wide := stFlat(impl.ProcComb, blockSt(make([]impl.St, size-1)...))
		two := stFlat(impl.ProcComb, blockSt())
		for i := range wide.Procs[0].Body.Kids {
			wide.Procs[0].Body.Kids[i] = blockSt()
		}
		wantsFlat(t, fmt.Sprint("wide ", size), wide, size <= impl.MaxSize)
		wide.Procs[0].Body.Kids = wide.Procs[0].Body.Kids[1:]
		wide.Procs = append(wide.Procs, two.Procs[0])
		wantsFlat(t, fmt.Sprint("wide in two ", size), wide, size <= impl.MaxSize)
	}
	for _, deep := range []int{impl.MaxTree - 1, impl.MaxTree, impl.MaxTree + 1} {
		want := deep <= impl.MaxTree
		e := bitsEx("0")
		for range deep - 2 {
			e = ex(impl.OpNot, 1, e)
		}
		wantsFlat(t, fmt.Sprint("deep ", deep), exFlat(e), want)
		s := blockSt()
		for range deep - 1 {
			s = blockSt(s)
		}
		wantsFlat(t, fmt.Sprint("deep blocks ", deep), stFlat(impl.ProcComb, s), want)
		s = setSt(impl.StSet, 4, 0, bitsEx("0"), bitsEx("0"))
		for range deep - 2 {
			s = ifSt(bitsEx("1"), blockSt(), s)
		}
		wantsFlat(t, fmt.Sprint("deep ifs ", deep), stFlat(impl.ProcComb, blockSt(s)), deep+1 <= impl.MaxTree)
	}
}

// What is within itself, or in more places than can be counted, is no flat design.
func TestFlatsWithoutEnd(t *testing.T) {
	loop := ex(impl.OpNot, 1, bitsEx("0"))
	loop.Kids[0] = loop
	wantsFlat(t, "an Ex within itself", exFlat(loop), false)
	many := ex(impl.OpBoth, 1, bitsEx("0"), bitsEx("0"))
	many.Kids[0], many.Kids[1] = many, many
	wantsFlat(t, "twice within itself", exFlat(many), false)
	block := blockSt(blockSt())
	block.Kids[0] = block
	wantsFlat(t, "a St within itself", stFlat(impl.ProcComb, block), false)
	both := ifSt(loop, blockSt(), blockSt())
	both.Kids[0], both.Kids[1] = both, both
	wantsFlat(t, "ifs within themselves", stFlat(impl.ProcComb, blockSt(both)), false)
	e := bitsEx("0")
	for range 300 {
		e = ex(impl.OpAnd, 1, e, e)
	}
	wantsFlat(t, "more than can be counted", exFlat(e), false)
	s := blockSt()
	for range 300 {
		s = blockSt(s, s)
	}
	wantsFlat(t, "more blocks than can be counted", stFlat(impl.ProcStart, s), false)
	wantsFlat(t, "a long list", exFlat(ex(impl.OpJoin, 64, make([]impl.Ex, 1<<20)...)), false)
	wantsFlat(t, "a long list of blocks", stFlat(impl.ProcComb, blockSt(make([]impl.St, 1<<20)...)), false)
}
