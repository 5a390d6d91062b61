package tests

import (
	"fmt"
	"slices"
	"strings"
	"testing"

	"loop.example/g00031/impl"
)

func TestEncode(t *testing.T) {
	const (
		turn  = "1 1 | 00 0,1 0,0 | 01 1,0 1,1"
		three = "0 2 | 1 1 00 | 01 2 01 | 11 0 10"
		five  = "0 3 | 1 1 111 | 01 2 110 | 11 3 101 | 10 4 100 | 0 0 011"
	)
	for what, c := range map[string]struct {
		text string
		mode int
		want string
	}{
		"one state":                   {"0 3 | - 0 101", impl.EncBinary, "'101 '0 | s=0<1@0 | 0 | "},
		"one state, gray":             {"0 3 | - 0 101", impl.EncGray, "'101 '0 | s=0<1@0 | 0 | "},
		"one state, hot":              {"0 3 | - 0 101", impl.EncHot, "'101 '1 | s=1<1@0 | 0 | "},
		"one state that tells a code": {"0 1 | - 0 1", impl.EncHot, "'1 | s=1<0@0 | 0 | "},
		"one state with an input":     {"1 2 | - 0,0 01,10", impl.EncBinary, "in0 '0 eq(0,1) '01 '10 choose(2,3,4) choose(2,1,1) | s=0<6@0 | 5 | "},
		"two states":                  {turn, impl.EncBinary, "reg0 '0 eq(0,1) in0 eq(3,1) choose(4,1,1) '1 choose(4,6,6) choose(2,5,7) choose(4,1,6) choose(4,6,1) choose(2,9,10) | s=0<11@0 | 8 | "},
		"two states, gray":            {turn, impl.EncGray, "reg0 '0 eq(0,1) in0 eq(3,1) choose(4,1,1) '1 choose(4,6,6) choose(2,5,7) choose(4,1,6) choose(4,6,1) choose(2,9,10) | s=0<11@0 | 8 | "},
		"two states, hot":             {turn, impl.EncHot, "reg0 '01 eq(0,1) in0 '0 eq(3,4) choose(5,4,4) '1 choose(5,7,7) choose(2,6,8) '10 choose(5,1,10) choose(5,10,1) choose(2,11,12) | s=01<13@0 | 9 | "},
		"no input":                    {three, impl.EncBinary, "reg0 '00 eq(0,1) '01 eq(0,3) '10 choose(4,3,5) choose(2,1,6) choose(4,5,1) choose(2,3,8) | s=00<9@0 | 7 | "},
		"no input, gray":              {three, impl.EncGray, "reg0 '00 eq(0,1) '01 eq(0,3) '10 choose(4,3,5) choose(2,1,6) '11 choose(4,8,1) choose(2,3,9) | s=00<10@0 | 7 | "},
		"no input, hot":               {three, impl.EncHot, "reg0 '001 eq(0,1) '00 '010 eq(0,4) '01 '10 choose(5,6,7) choose(2,3,8) '100 choose(5,10,1) choose(2,4,11) | s=001<12@0 | 9 | "},
		"five states":                 {five, impl.EncBinary, "reg0 '000 eq(0,1) '111 '001 eq(0,4) '110 '010 eq(0,7) '101 '011 eq(0,10) '100 choose(11,12,10) choose(8,9,13) choose(5,6,14) choose(2,3,15) choose(11,12,1) choose(8,10,17) choose(5,7,18) choose(2,4,19) | s=000<20@0 | 16 | "},
		"five states, gray":           {five, impl.EncGray, "reg0 '000 eq(0,1) '111 '001 eq(0,4) '110 '011 eq(0,7) '101 '010 eq(0,10) '100 choose(11,12,7) choose(8,9,13) choose(5,6,14) choose(2,3,15) choose(11,6,1) choose(8,10,17) choose(5,7,18) choose(2,4,19) | s=000<20@0 | 16 | "},
		"two input bits":              {"2 1 | - 0,0,0,0 0,1,1,0", impl.EncHot, "in0 '00 eq(0,1) '0 '01 eq(0,4) '1 '10 eq(0,7) choose(8,6,3) choose(5,6,9) choose(2,3,10) choose(8,6,6) choose(5,6,12) choose(2,6,13) | s=1<14@0 | 11 | "},
		"rows that are the same":      {"1 1 | 0 1,1 0,1 | 1 1,1 0,1", impl.EncBinary, "reg0 '0 eq(0,1) in0 eq(3,1) '1 choose(4,1,5) choose(2,6,6) choose(4,5,5) choose(2,8,8) | s=0<9@0 | 7 | "},
		"y and Next the same":         {"0 1 | 0 1 1 | 1 0 0", impl.EncBinary, "reg0 '0 eq(0,1) '1 choose(2,3,1) | s=0<4@0 | 4 | "},
		"codes do not hang on texts":  {"0 1 | 1 1 0 | 0 0 0", impl.EncBinary, "reg0 '0 eq(0,1) choose(2,1,1) '1 choose(2,4,1) | s=0<5@0 | 3 | "},
		"states not come to stay":     {"0 1 | 1 0 0 | 0 0 1", impl.EncBinary, "reg0 '0 eq(0,1) '1 choose(2,1,3) choose(2,1,1) | s=0<5@0 | 4 | "},
	} {
		f := fsmRead(c.text)
		n, code := holdEncoded(t, f, c.mode)
		if code != impl.OK || netWritten(n) != c.want {
			t.Errorf("%s: code %d, %s, want %s", what, code, netWritten(n), c.want)
			continue
		}
		in := fmt.Sprint([]impl.NetPort{{Name: "i", Width: f.Ins}})
		if f.Ins == 0 {
			in = "[]"
		}
		if fmt.Sprint(n.Ins) != in || fmt.Sprint(n.Clocks) != "[clk]" || len(n.Outs) != 1 || n.Outs[0].Name != "y" || n.Regs[0].Width != len(n.Regs[0].Init) {
			t.Errorf("%s: %s", what, netShown(n))
		}
		holdTells(t, n, f, machinistOf(uint64(len(what))).inputs(f, 20))
	}
}

// In as few bits as the greatest number needs, at least one; as many as there are states.
func TestEncodeWidths(t *testing.T) {
	for states, want := range map[int]int{1: 1, 2: 1, 3: 2, 4: 2, 5: 3, 8: 3, 9: 4, 16: 4, 17: 5, 32: 5, 33: 6, 63: 6, 64: 6} {
		f := wideFsm(0, 6, states, 6)
		for mode, width := range map[int]int{impl.EncBinary: want, impl.EncGray: want, impl.EncHot: states} {
			n, code := holdEncoded(t, f, mode)
			if code != impl.OK || n.Regs[0].Width != width {
				t.Fatalf("%d states, mode %d: code %d, %d bits", states, mode, code, n.Regs[0].Width)
			}
			holdTells(t, n, f, make([]int, states+3))
		}
	}
}

// The register goes through the codes, as the machine through its states.
func TestEncodeCodes(t *testing.T) {
	for mode, want := range map[int]string{
		impl.EncBinary: "000 001 010 011 100 101 110 111",
		impl.EncGray:   "000 001 011 010 110 111 101 100",
		impl.EncHot:    "00000001 00000010 00000100 00001000 00010000 00100000 01000000 10000000",
	} {
		n, _ := holdEncoded(t, wideFsm(0, 3, 8, 3), mode)
		rows, _ := impl.NetRun(n, stepsTold(n, make([]int, 7)))
		got := []string{n.Regs[0].Init}
		for _, row := range rows {
			got = append(got, row.Regs...)
		}
		if strings.Join(got, " ") != want {
			t.Errorf("mode %d: %v, want %s", mode, got, want)
		}
	}
}

func TestEncodeFaults(t *testing.T) {
	right := fsmRead(theFsm)
	wrong := fsmRead("0 1 | 0 1 0")
	for _, mode := range []int{0, 4, -1, 5, 7, 1 << 32, 1<<32 + 1, 1<<63 - 1, -1 << 63} {
		if n, code := holdEncoded(t, right, mode); code != impl.ErrKind || netShown(n) != netShown(impl.Net{}) {
			t.Errorf("mode %d: code %d", mode, code)
		}
		if n, code := holdEncoded(t, wrong, mode); code != impl.ErrBad || netShown(n) != netShown(impl.Net{}) {
			t.Errorf("mode %d of no machine: code %d", mode, code)
		}
		if _, code := holdEncoded(t, distinctFsm(64, 64), mode); code != impl.ErrKind {
			t.Errorf("mode %d of too many cells: code %d", mode, code)
		}
	}
	for mode := impl.EncBinary; mode <= impl.EncHot; mode++ {
		if _, code := holdEncoded(t, right, mode); code != impl.OK {
			t.Errorf("mode %d: code %d", mode, code)
		}
		if n, code := holdEncoded(t, wrong, mode); code != impl.ErrBad || netShown(n) != netShown(impl.Net{}) {
			t.Errorf("mode %d of no machine: code %d", mode, code)
		}
	}
}

// distinctFsm has 64 states and 32 inputs; the first of them, so many, tell with the last input what no other one does, and the first ones, so many, come then to a state to which no other one comes then. With input 0 all tell and come to the same.
func distinctFsm(outs, nexts int) impl.Fsm {
	f := wideFsm(5, 16, 64, 6)
	for s := range f.States {
		for i := range f.Next[s] {
			f.Next[s][i], f.Outs[s][i] = 1, zeros(16)
		}
		if s < outs {
			f.Outs[s][31] = impl.BitsOf(1000+s, 16)
		}
		if s < nexts {
			f.Next[s][31] = (s + 2) % 64
		}
	}
	return f
}

// MaxCells at its bound and one above it: each thing more that a state tells, in a row of its own, is a cell more.
func TestEncodeManyCells(t *testing.T) {
	for mode := impl.EncBinary; mode <= impl.EncHot; mode++ {
		if n, code := holdEncoded(t, distinctFsm(64, 64), mode); code != impl.ErrMany || netShown(n) != netShown(impl.Net{}) {
			t.Errorf("mode %d: code %d", mode, code)
		}
		nexts := 52
		for len(encodedAll(distinctFsm(64, nexts+1), mode).Cells) <= impl.MaxCells {
			nexts++
		}
		f := distinctFsm(64, nexts)
		left := impl.MaxCells - len(encodedAll(f, mode).Cells)
		for s := range left {
			f.Outs[s][0] = impl.BitsOf(2000+s, 16)
		}
		n, code := holdEncoded(t, f, mode)
		if code != impl.OK || len(n.Cells) != impl.MaxCells {
			t.Fatalf("mode %d: code %d, %d cells, %d were left", mode, code, len(n.Cells), left)
		}
		inputs := slices.Concat(slices.Repeat([]int{31}, 70), machinistOf(8).inputs(f, 200))
		holdTells(t, n, f, inputs)
		f.Outs[left][0] = impl.BitsOf(3000, 16)
		if len(encodedAll(f, mode).Cells) != impl.MaxCells+1 {
			t.Fatalf("mode %d: not one cell more", mode)
		}
		if n, code := holdEncoded(t, f, mode); code != impl.ErrMany || netShown(n) != netShown(impl.Net{}) {
			t.Errorf("mode %d: code %d", mode, code)
		}
	}
}
