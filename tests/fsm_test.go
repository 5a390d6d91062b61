package tests

import (
	"fmt"
	"slices"
	"strings"
	"testing"

	"loop.example/g00031/impl"
)

func fsmShown(f impl.Fsm) string { return fmt.Sprintf("%+v", f) }

// wantsFsm holds FsmOK against what is told; where that is no machine each call says so.
func wantsFsm(t *testing.T, what string, f impl.Fsm, want bool) {
	t.Helper()
	if got := impl.FsmOK(f); got != want || fsmTold(f) != want {
		t.Errorf("%s: %v, told %v", what, got, fsmTold(f))
	}
	if want {
		return
	}
	if told, code := impl.FsmRun(f, []int{0}); code != impl.ErrBad || len(told) != 0 {
		t.Errorf("%s: FsmRun: code %d, %v", what, code, told)
	}
	if made, code := impl.Minimise(f); code != impl.ErrBad || fsmShown(made) != fsmShown(impl.Fsm{}) {
		t.Errorf("%s: Minimise: code %d, %s", what, code, fsmShown(made))
	}
	for mode := range 5 {
		if n, code := impl.Encode(f, mode); code != impl.ErrBad || netShown(n) != netShown(impl.Net{}) {
			t.Errorf("%s: Encode: code %d, %s", what, code, netShown(n))
		}
	}
}

// holdFsmRun holds what a machine tells against what is told of it.
func holdFsmRun(t *testing.T, f impl.Fsm, inputs []int) ([]string, int) {
	t.Helper()
	got, code := impl.FsmRun(f, inputs)
	want, wantCode := fsmRunTold(f, inputs)
	if code != wantCode || !slices.Equal(got, want) {
		t.Fatalf("%s\n%v: code %d, %v, want %d, %v", fsmShown(f), inputs, code, got, wantCode, want)
	}
	return got, code
}

// holdMachine holds the machine of a netlist against what is told of it.
func holdMachine(t *testing.T, n impl.Net) (impl.Fsm, int) {
	t.Helper()
	got, code := impl.Machine(n)
	want, wantCode := machineTold(n)
	if code != wantCode || fsmShown(got) != fsmShown(want) {
		t.Fatalf("%s\ncode %d, want %d\n%s, want\n%s", netShown(n), code, wantCode, fsmShown(got), fsmShown(want))
	}
	if code == impl.OK && !impl.FsmOK(got) {
		t.Fatalf("%s\nis made no machine:\n%s", netShown(n), fsmShown(got))
	}
	return got, code
}

// holdMinimised holds a minimal machine against what is told of it.
func holdMinimised(t *testing.T, f impl.Fsm) (impl.Fsm, int) {
	t.Helper()
	got, code := impl.Minimise(f)
	want, wantCode := minimisedTold(f)
	if code != wantCode || fsmShown(got) != fsmShown(want) {
		t.Fatalf("%s\ncode %d, want %d\n%s, want\n%s", fsmShown(f), code, wantCode, fsmShown(got), fsmShown(want))
	}
	if code == impl.OK && !impl.FsmOK(got) {
		t.Fatalf("%s\nis made no machine:\n%s", fsmShown(f), fsmShown(got))
	}
	return got, code
}

// holdEncoded holds an encoded machine against what is told of it.
func holdEncoded(t *testing.T, f impl.Fsm, mode int) (impl.Net, int) {
	t.Helper()
	got, code := impl.Encode(f, mode)
	want, wantCode := encodedTold(f, mode)
	if code != wantCode || netShown(got) != netShown(want) {
		t.Fatalf("%s\nmode %d, code %d, want %d\n%s, want\n%s", fsmShown(f), mode, code, wantCode, netWritten(got), netWritten(want))
	}
	if code == impl.OK && !impl.NetOK(got) {
		t.Fatalf("%s\nmode %d is made no netlist:\n%s", fsmShown(f), mode, netShown(got))
	}
	return got, code
}

// theFsm turns with input 1 through three states, and tells the last one.
const theFsm = "1 2 | 00 0,1 00,00 | 01 1,2 00,01 | 10 2,0 10,11"

func TestFsmConstants(t *testing.T) {
	got := fmt.Sprint(impl.MaxInBits, impl.MaxStates, impl.EncBinary, impl.EncGray, impl.EncHot)
	if got != "5 64 1 2 3" {
		t.Error(got)
	}
}

func TestFsmOK(t *testing.T) {
	wantsFsm(t, "nothing", impl.Fsm{}, false)
	for _, text := range []string{
		theFsm,
		"0 1 | - 0 0",
		"0 1 | 1 0 1",
		"0 1 | 1 0 1 | - 1 0 | 11 0 0 | 01 2 1",
		"2 3 | 0 0,1,1,0 000,111,010,101 | 1 1,1,1,1 000,000,000,000",
	} {
		wantsFsm(t, text, fsmRead(text), true)
		if fsmWritten(fsmRead(text)) != text {
			t.Errorf("%s: read as %s", text, fsmWritten(fsmRead(text)))
		}
	}
	for _, text := range []string{
		"1 1 | 0 0,2 0,0 | 1 0,1 0,0", "1 1 | 0 0,1 0,0 | 1 -1,1 0,0", "1 1 | 0 0,1 0,0 | 1 0 0,0", "1 1 | 0 0,1 0,0 | 1 0,0,1 0,0",
		"1 1 | 0 0,1 0,0 | 1 0,1 0", "1 1 | 0 0,1 0,0 | 1 0,1 0,0,0", "1 1 | 0 0,1 0,0 | 0 0,1 0,0", "1 1 | - 0,1 0,0 | - 0,1 0,0",
		"1 1 | 0 0,1 0,x | 1 0,1 0,0", "1 1 | 0 0,1 z,0 | 1 0,1 0,0", "1 1 | 0 0,1 0,00 | 1 0,1 0,0", "1 2 | 0 0,1 00,00 | 1 0,1 00,0",
		"1 1 | 0 0,1 0,0 | x 0,1 0,0", "1 1 | 0 0,1 0,0 | 1z 0,1 0,0", "1 1 | 0 0,1 0,0 | 2 0,1 0,0", "1 1 | 0 0,1 0,0 | 0a1 0,1 0,0",
		"1 1 | 0 0,1 0,2 | 1 0,1 0,0", "1 1 | 0 0,1 0, | 1 0,1 0,0", "0 1 | 0 0,0 0,0", "0 1 | 0 1 0", "0 1 | 0 -1 0", "1 1 | 0 0,0 0,0 | 1 0,1 0,0 | 01 0,3 0,0",
		"2 1 | 0 0,0 0,0", "1 1 | 0 0,0,0,0 0,0,0,0",
	} {
		wantsFsm(t, text, fsmRead(text), false)
	}
	const low, high = -1 << 63, 1<<63 - 1
	for what, change := range map[string]func(f *impl.Fsm){
		"Ins below":            func(f *impl.Fsm) { f.Ins = -1 },
		"Ins far below":        func(f *impl.Fsm) { f.Ins = low },
		"Ins far above":        func(f *impl.Fsm) { f.Ins = high },
		"Ins that shift round": func(f *impl.Fsm) { f.Ins = 65 },
		"another Ins":          func(f *impl.Fsm) { f.Ins = 0 },
		"OutBits below":        func(f *impl.Fsm) { f.OutBits = -1 },
		"no OutBits":           func(f *impl.Fsm) { f.OutBits = 0 },
		"OutBits far below":    func(f *impl.Fsm) { f.OutBits = low },
		"OutBits far above":    func(f *impl.Fsm) { f.OutBits = high },
		"another OutBits":      func(f *impl.Fsm) { f.OutBits = 1 },
		"no States":            func(f *impl.Fsm) { f.States = nil },
		"a state less":         func(f *impl.Fsm) { f.States = f.States[:2] },
		"a state more":         func(f *impl.Fsm) { f.States = append(f.States, "11") },
		"no Next":              func(f *impl.Fsm) { f.Next = nil },
		"a row of Next less":   func(f *impl.Fsm) { f.Next = f.Next[:2] },
		"a row of Next more":   func(f *impl.Fsm) { f.Next = append(f.Next, []int{0, 0}) },
		"an empty row of Next": func(f *impl.Fsm) { f.Next[1] = nil },
		"a Next far below":     func(f *impl.Fsm) { f.Next[2][1] = low },
		"a Next far above":     func(f *impl.Fsm) { f.Next[2][1] = high },
		"no Outs":              func(f *impl.Fsm) { f.Outs = nil },
		"a row of Outs less":   func(f *impl.Fsm) { f.Outs = f.Outs[:2] },
		"a row of Outs more":   func(f *impl.Fsm) { f.Outs = append(f.Outs, []string{"00", "00"}) },
		"an empty row of Outs": func(f *impl.Fsm) { f.Outs[1] = nil },
		"an empty out":         func(f *impl.Fsm) { f.Outs[2][1] = "" },
		"a very long out":      func(f *impl.Fsm) { f.Outs[2][1] = zeros(1 << 20) },
		"a very long text":     func(f *impl.Fsm) { f.States[2] = zeros(1 << 20) },
		"very many states":     func(f *impl.Fsm) { f.States = make([]string, 1<<20) },
		"very many all": func(f *impl.Fsm) {
			f.States, f.Next, f.Outs = make([]string, 1<<20), make([][]int, 1<<20), make([][]string, 1<<20)
		},
		"a very long row":       func(f *impl.Fsm) { f.Next[0] = make([]int, 1<<20) },
		"no machine at the end": func(f *impl.Fsm) { f.Outs[2][1] = "1x" },
	} {
		f := fsmRead(theFsm)
		change(&f)
		wantsFsm(t, what, f, false)
	}
}

// wideFsm has so many bits and states, each of which comes to the next one; the texts have so many bytes.
func wideFsm(ins, outBits, states, text int) impl.Fsm {
	f := impl.Fsm{Ins: ins, OutBits: outBits}
	for s := range states {
		f.States = append(f.States, impl.BitsOf(s, min(text, 64))+zeros(max(text-64, 0)))
		f.Next = append(f.Next, slices.Repeat([]int{(s + 1) % states}, 1<<max(ins, 0)))
		f.Outs = append(f.Outs, slices.Repeat([]string{impl.BitsOf(s, min(outBits, 64)) + zeros(max(outBits-64, 0))}, 1<<max(ins, 0)))
	}
	return f
}

// Each bound at it and one beyond it.
func TestFsmLimits(t *testing.T) {
	for _, c := range []struct {
		ins, outBits, states, text int
		want                       bool
	}{
		{0, 1, 1, 0, true}, {-1, 1, 1, 0, false}, {0, 0, 1, 0, false}, {0, 1, 0, 0, false}, {0, 1, 2, 0, false}, {0, 1, 2, 1, true},
		{5, 1, 2, 1, true}, {6, 1, 2, 1, false},
		{0, 64, 2, 1, true}, {0, 65, 2, 1, false},
		{0, 6, 64, 6, true}, {0, 7, 65, 7, false},
		{0, 6, 64, 64, true}, {0, 6, 64, 65, false},
		{5, 64, 64, 64, true}, {6, 64, 64, 64, false}, {5, 65, 64, 64, false}, {5, 64, 65, 64, false}, {5, 64, 64, 65, false},
	} {
		wantsFsm(t, fmt.Sprint(c), wideFsm(c.ins, c.outBits, c.states, c.text), c.want)
	}
}

func TestFsmRun(t *testing.T) {
	for _, c := range []struct{ text, inputs, want string }{
		{theFsm, "", ""},
		{theFsm, "0", "00"},
		{theFsm, "1 1 1 1", "01 11 00 01"},
		{theFsm, "1 0 1 0 0 1 0", "01 00 11 10 10 00 00"},
		{"0 1 | 0 1 0 | 1 0 1", "0 0 0", "1 0 1"},
		{"0 3 | - 0 101", "0 0", "101 101"},
		// it tells what the state that is come to has, with the same input
		{"1 3 | 0 1,2 000,001 | 1 1,1 010,011 | 11 2,2 100,101", "0 1 0", "010 011 010"},
		{"1 3 | 0 1,2 000,001 | 1 1,1 010,011 | 11 2,2 100,101", "1 0 1", "101 100 101"},
		{"2 2 | 0 0,0,0,1 00,01,10,11 | 1 0,1,1,1 11,10,01,00", "1 3 2 2 1 0 3 0", "01 00 01 01 10 00 00 00"},
	} {
		var inputs []int
		for word := range strings.FieldsSeq(c.inputs) {
			inputs = append(inputs, numberRead(word))
		}
		told, code := holdFsmRun(t, fsmRead(c.text), inputs)
		if code != impl.OK || strings.Join(told, " ") != c.want {
			t.Errorf("%s %s: code %d, %v, want %s", c.text, c.inputs, code, told, c.want)
		}
	}
}

func TestFsmRunFaults(t *testing.T) {
	right := fsmRead(theFsm)
	plain := fsmRead("0 1 | 0 0 1")
	wrong := fsmRead("0 1 | 0 1 0")
	for what, c := range map[string]struct {
		f      impl.Fsm
		inputs []int
		want   int
	}{
		"right":                          {right, []int{0, 1}, impl.OK},
		"above":                          {right, []int{2}, impl.ErrRange},
		"above at the end":               {right, []int{0, 1, 1, 2}, impl.ErrRange},
		"above at the beginning":         {right, []int{2, 0, 1}, impl.ErrRange},
		"below":                          {right, []int{1, -1}, impl.ErrRange},
		"far above":                      {right, []int{1<<63 - 1}, impl.ErrRange},
		"far below":                      {right, []int{-1 << 63}, impl.ErrRange},
		"of one input alone":             {plain, []int{0, 0}, impl.OK},
		"above of one input alone":       {plain, []int{1}, impl.ErrRange},
		"the greatest":                   {wideFsm(5, 1, 1, 0), []int{31}, impl.OK},
		"above the greatest":             {wideFsm(5, 1, 1, 0), []int{32}, impl.ErrRange},
		"no machine":                     {wrong, []int{0}, impl.ErrBad},
		"no machine, nothing":            {wrong, nil, impl.ErrBad},
		"no machine ahead of a range":    {wrong, []int{-1}, impl.ErrBad},
		"as many as can be":              {right, make([]int, impl.MaxList), impl.OK},
		"one more":                       {right, make([]int, impl.MaxList+1), impl.ErrLong},
		"one more ahead of no machine":   {wrong, make([]int, impl.MaxList+1), impl.ErrLong},
		"one more ahead of a range":      {right, slices.Repeat([]int{7}, impl.MaxList+1), impl.ErrLong},
		"as many, none of them an input": {right, slices.Repeat([]int{7}, impl.MaxList), impl.ErrRange},
	} {
		told, code := holdFsmRun(t, c.f, c.inputs)
		if code != c.want || code != impl.OK && len(told) != 0 || code == impl.OK && len(told) != len(c.inputs) {
			t.Errorf("%s: code %d, %v", what, code, told)
		}
	}
}

func TestMinimise(t *testing.T) {
	for what, c := range map[string]struct{ text, want string }{
		"one state":                       {"0 1 | 1 0 0", "0 1 | 1 0 0"},
		"nothing alike":                   {theFsm, theFsm},
		"all alike":                       {"1 1 | 00 1,2 1,0 | 01 2,0 1,0 | 10 0,0 1,0", "1 1 | 00 0,0 1,0"},
		"a state that is not come to":     {"0 1 | 00 0 0 | 01 0 1", "0 1 | 00 0 0"},
		"none of several":                 {"0 1 | 00 2 0 | 01 3 1 | 10 0 1 | 11 1 0", "0 1 | 00 1 0 | 10 0 1"},
		"come to by way of others":        {"1 2 | 0 0,3 00,00 | 1 2,2 01,01 | 01 2,2 11,11 | 11 1,3 10,10", "1 2 | 0 0,1 00,00 | 11 2,1 10,10 | 1 3,3 01,01 | 01 3,3 11,11"},
		"the same now and not later":      {"0 1 | 00 1 0 | 01 2 0 | 10 0 1", "0 1 | 00 1 0 | 01 2 0 | 10 0 1"},
		"the same now, not much later":    {"0 1 | 000 1 0 | 001 2 0 | 010 3 0 | 011 4 0 | 100 4 1", "0 1 | 000 1 0 | 001 2 0 | 010 3 0 | 011 4 0 | 100 4 1"},
		"two ways, not the same later":    {"1 1 | 000 1,2 0,0 | 001 3,3 1,1 | 010 4,4 1,1 | 011 0,0 0,0 | 100 0,0 0,1", "1 1 | 000 1,2 0,0 | 001 3,3 1,1 | 010 4,4 1,1 | 011 0,0 0,0 | 100 0,0 0,1"},
		"two ways, the same":              {"1 1 | 000 1,2 0,0 | 001 3,3 1,1 | 010 4,4 1,1 | 011 0,0 0,1 | 100 0,0 0,1", "1 1 | 000 1,1 0,0 | 001 2,2 1,1 | 011 0,0 0,1"},
		"unlike with one input only":      {"1 1 | 0 0,1 0,0 | 1 0,1 0,1", "1 1 | 0 0,1 0,0 | 1 0,1 0,1"},
		"unlike with one step only":       {"1 1 | 00 1,2 0,0 | 01 1,1 1,1 | 10 1,0 1,1", "1 1 | 00 1,2 0,0 | 01 1,1 1,1 | 10 1,0 1,1"},
		"numbers as they are come to":     {"1 2 | 00 3,1 00,00 | 01 1,2 01,01 | 10 2,3 10,10 | 11 0,2 11,11", "1 2 | 00 1,2 00,00 | 11 0,3 11,11 | 01 2,3 01,01 | 10 3,1 10,10"},
		"the text of the least":           {"1 1 | 0 3,2 0,0 | 00 0,0 0,0 | 11 0,0 1,1 | 01 0,0 1,1", "1 1 | 0 1,1 0,0 | 11 0,0 1,1"},
		"least of those that are come to": {"1 1 | 0 3,2 0,0 | 1 0,0 1,1 | 11 0,0 1,1 | 01 0,0 1,1", "1 1 | 0 1,1 0,0 | 11 0,0 1,1"},
		"the least comes last":            {"1 2 | 0 3,3 00,00 | 1 0,0 01,01 | 10 1,1 10,10 | 11 4,4 01,01 | 101 2,5 10,10 | 111 0,0 01,01", "1 2 | 0 1,1 00,00 | 11 2,2 01,01 | 101 3,4 10,10 | 10 4,4 10,10 | 1 0,0 01,01"},
		"state 0 is not the only one":     {"0 1 | 1 1 0 | 0 2 0 | 11 1 0", "0 1 | 1 0 0"},
		"a ring of six that is two":       {"0 1 | 000 1 0 | 001 2 1 | 010 3 0 | 011 4 1 | 100 5 0 | 101 0 1", "0 1 | 000 1 0 | 001 0 1"},
		"a ring of six that is three":     {"0 1 | 000 1 0 | 001 2 0 | 010 3 1 | 011 4 0 | 100 5 0 | 101 0 1", "0 1 | 000 1 0 | 001 2 0 | 010 0 1"},
		"a ring of six that is six":       {"0 1 | 000 1 0 | 001 2 0 | 010 3 1 | 011 4 0 | 100 5 1 | 101 0 1", "0 1 | 000 1 0 | 001 2 0 | 010 3 1 | 011 4 0 | 100 5 1 | 101 0 1"},
		"an empty text":                   {"0 1 | 1 1 0 | - 0 1 | 0 2 0", "0 1 | 1 1 0 | - 0 1"},
		"texts do not mind":               {"0 1 | 1 1 0 | - 2 0 | 01 0 0", "0 1 | 1 0 0"},
		// what a state tells counts where it is never come to again, too
		"state 0 tells another thing":   {"0 1 | 0 1 0 | 1 1 1", "0 1 | 0 1 0 | 1 1 1"},
		"one that keeps the last input": {"1 1 | 0 0,1 0,0 | 1 0,1 1,1", "1 1 | 0 0,1 0,0 | 1 0,1 1,1"},
	} {
		f := fsmRead(c.text)
		got, code := holdMinimised(t, f)
		if code != impl.OK || fsmWritten(got) != c.want {
			t.Errorf("%s: code %d, %s, want %s", what, code, fsmWritten(got), c.want)
		}
		holdMinimal(t, f, got, machinistOf(uint64(len(what))).inputs(f, 40))
	}
}

func TestMinimiseFull(t *testing.T) {
	f := wideFsm(5, 64, 64, 64)
	made, code := holdMinimised(t, f)
	if code != impl.OK || fsmShown(made) != fsmShown(f) {
		t.Errorf("code %d, %s", code, fsmWritten(made))
	}
	for s := range f.Outs {
		f.Outs[s] = slices.Repeat([]string{strings.Repeat("1", 64)}, 32)
	}
	if made, _ = holdMinimised(t, f); len(made.States) != 1 {
		t.Errorf("%d states", len(made.States))
	}
	// the last state alone tells another thing, with the last input, in the last bit
	f.Outs[63][31] = strings.Repeat("1", 63) + "0"
	if made, _ = holdMinimised(t, f); fsmShown(made) != fsmShown(f) {
		t.Errorf("%d states", len(made.States))
	}
}
