package tests

import (
	"math/big"
	"strings"
	"testing"

	"loop.example/g00031/impl"
)

// The functions below say chapter 2 again, letter by letter, to hold the program against.

func known(a string) bool { return !strings.ContainsAny(a, "xz") }

func numberOf(a string, signed bool) *big.Int {
	n, _ := new(big.Int).SetString(a, 2)
	if signed && a[0] == '1' {
		n.Sub(n, new(big.Int).Lsh(big.NewInt(1), uint(len(a))))
	}
	return n
}

func lowestBits(n *big.Int, width int) string {
	m := new(big.Int).Mod(n, new(big.Int).Lsh(big.NewInt(1), uint(width)))
	text := m.Text(2)
	return strings.Repeat("0", width-len(text)) + text
}

func letterIf(holds bool) string {
	if holds {
		return "1"
	}
	return "0"
}

func turned(letter string) string {
	switch letter {
	case "0":
		return "1"
	case "1":
		return "0"
	}
	return "x"
}

func truthOf(a string) string {
	if strings.Contains(a, "1") {
		return "1"
	}
	if strings.Trim(a, "0") == "" {
		return "0"
	}
	return "x"
}

func andLetters(a, b string) string {
	if a == "0" || b == "0" {
		return "0"
	}
	if a == "1" && b == "1" {
		return "1"
	}
	return "x"
}

func orLetters(a, b string) string {
	return turned(andLetters(turned(a), turned(b)))
}

func xorLetters(a, b string) string {
	if !known(a) || !known(b) {
		return "x"
	}
	return letterIf(a != b)
}

func eachLetter(a, b string, of func(a, b string) string) string {
	out := ""
	for i := range len(a) {
		out += of(a[i:i+1], b[i:i+1])
	}
	return out
}

func equalLetter(a, b string) string {
	for i := range len(a) {
		if a[i] == '0' && b[i] == '1' || a[i] == '1' && b[i] == '0' {
			return "0"
		}
	}
	if !known(a) || !known(b) {
		return "x"
	}
	return "1"
}

func shiftText(op int, a, b string) string {
	if !known(b) {
		return strings.Repeat("x", len(a))
	}
	n := len(a)
	if by := numberOf(b, false); by.IsInt64() && by.Int64() < int64(n) {
		n = int(by.Int64())
	}
	switch op {
	case impl.OpShl:
		return a[n:] + strings.Repeat("0", n)
	case impl.OpShr:
		return strings.Repeat("0", n) + a[:len(a)-n]
	}
	return strings.Repeat(a[:1], n) + a[:len(a)-n]
}

func arithmetic(op int, signed bool, a, b string) string {
	unknown := strings.Repeat("x", len(a))
	if op == impl.OpLt || op == impl.OpLe {
		unknown = "x"
	}
	if !known(a) || !known(b) {
		return unknown
	}
	x, y, out := numberOf(a, signed), numberOf(b, signed), new(big.Int)
	switch op {
	case impl.OpAdd:
		out.Add(x, y)
	case impl.OpSub:
		out.Sub(x, y)
	case impl.OpMul:
		out.Mul(x, y)
	case impl.OpLt:
		return letterIf(x.Cmp(y) < 0)
	case impl.OpLe:
		return letterIf(x.Cmp(y) <= 0)
	default:
		if y.Sign() == 0 {
			return unknown
		}
		if op == impl.OpDiv {
			out.Quo(x, y)
		} else {
			out.Rem(x, y)
		}
	}
	return lowestBits(out, len(a))
}

func binaryTold(op int, signed bool, a, b string) string {
	switch op {
	case impl.OpShl, impl.OpShr, impl.OpSar:
		return shiftText(op, a, b)
	case impl.OpBoth:
		return andLetters(truthOf(a), truthOf(b))
	case impl.OpEither:
		return orLetters(truthOf(a), truthOf(b))
	}
	if len(a) != len(b) {
		return ""
	}
	switch op {
	case impl.OpAnd:
		return eachLetter(a, b, andLetters)
	case impl.OpOr:
		return eachLetter(a, b, orLetters)
	case impl.OpXor:
		return eachLetter(a, b, xorLetters)
	case impl.OpEq:
		return equalLetter(a, b)
	case impl.OpNe:
		return turned(equalLetter(a, b))
	case impl.OpSame:
		return letterIf(a == b)
	}
	return arithmetic(op, signed, a, b)
}

func folded(a string, of func(a, b string) string) string {
	out := strings.ReplaceAll(a[:1], "z", "x")
	for i := 1; i < len(a); i++ {
		out = of(out, a[i:i+1])
	}
	return out
}

func unaryTold(op int, a string) string {
	switch op {
	case impl.OpNot:
		return eachLetter(a, a, func(a, _ string) string { return turned(a) })
	case impl.OpNeg:
		return arithmetic(impl.OpSub, false, strings.Repeat("0", len(a)), a)
	case impl.OpAll:
		return folded(a, andLetters)
	case impl.OpAny:
		return folded(a, orLetters)
	case impl.OpOdd:
		return folded(a, xorLetters)
	}
	return turned(truthOf(a))
}

func chooseTold(c, a, b string) string {
	switch truthOf(c) {
	case "1":
		return a
	case "0":
		return b
	}
	return eachLetter(a, b, func(a, b string) string {
		if a == b && known(a) {
			return a
		}
		return "x"
	})
}

func resolveTold(list []string) string {
	out := ""
	for i := range len(list[0]) {
		bit := "z"
		for _, v := range list {
			switch {
			case v[i] == 'z':
			case bit == "z":
				bit = v[i : i+1]
			case bit != v[i:i+1]:
				bit = "x"
			}
		}
		out += bit
	}
	return out
}

func holdBinary(t *testing.T, a, b string) {
	t.Helper()
	for op := impl.OpAnd; op <= impl.OpEither; op++ {
		for _, signed := range []bool{false, true} {
			if got, want := impl.Binary(op, signed, a, b), binaryTold(op, signed, a, b); got != want {
				t.Errorf("operation %d, signed %v, of %q and %q: %q, not %q", op, signed, a, b, got, want)
			}
		}
	}
}

func holdUnary(t *testing.T, a string) {
	t.Helper()
	for op := impl.OpNot; op <= impl.OpNone; op++ {
		if got, want := impl.Unary(op, a), unaryTold(op, a); got != want {
			t.Errorf("operation %d of %q: %q, not %q", op, a, got, want)
		}
	}
}

func TestPromise2AllShortVectors(t *testing.T) {
	var all []string
	for width := 1; width <= 3; width++ {
		all = append(all, allVectors(width)...)
	}
	for _, a := range all {
		holdUnary(t, a)
		for _, b := range all {
			holdBinary(t, a, b)
		}
	}
}

func TestPromise2AllKnownVectors(t *testing.T) {
	for width := 1; width <= 5; width++ {
		for a := range 1 << width {
			holdUnary(t, impl.BitsOf(a, width))
			for b := range 1 << width {
				holdBinary(t, impl.BitsOf(a, width), impl.BitsOf(b, width))
			}
		}
	}
}

// stirred is a number that looks like any other: the next one of a fixed row of them.
func stirred(last uint64) uint64 {
	last ^= last << 13
	last ^= last >> 7
	return last ^ last<<17
}

func wideVectors(width int) []string {
	numbers := []int{0, 1, 2, 3, -1, -2, -3, 63, 64, 65, 1 << (width - 1), 1<<(width-1) - 1, 1<<(width-1) + 1}
	seed := uint64(0x9e3779b97f4a7c15)
	for range 12 {
		seed = stirred(seed)
		numbers = append(numbers, int(seed), int(seed)>>uint(width/2))
	}
	var list []string
	for _, n := range numbers {
		list = append(list, impl.BitsOf(n, width))
	}
	for i := range 8 {
		seed = stirred(seed)
		text := []byte(list[i])
		text[seed%uint64(width)] = letters[2+i%2]
		list = append(list, string(text))
	}
	return append(list, strings.Repeat("x", width), strings.Repeat("z", width))
}

func TestPromise2WideVectors(t *testing.T) {
	for _, width := range []int{7, 8, 31, 32, 33, 62, 63, 64} {
		list := wideVectors(width)
		for _, a := range list {
			holdUnary(t, a)
			for _, b := range list {
				holdBinary(t, a, b)
			}
		}
	}
}

func TestPromise2ShiftsByAnyWidth(t *testing.T) {
	for _, a := range wideVectors(64)[:16] {
		for _, width := range []int{1, 6, 7, 8, 63} {
			for _, b := range wideVectors(width) {
				holdBinary(t, a, b)
				holdBinary(t, b, a)
			}
		}
	}
}

func TestChooseAndResolveOfAllShortVectors(t *testing.T) {
	for width := 1; width <= 2; width++ {
		all := allVectors(width)
		for _, a := range all {
			for _, b := range all {
				for _, c := range append(allVectors(1), all...) {
					wants(t, "Choose "+c+" "+a+" "+b, impl.Choose(c, a, b), chooseTold(c, a, b))
				}
				for _, c := range all {
					wants(t, "Resolve "+a+" "+b+" "+c, impl.Resolve([]string{a, b, c}), resolveTold([]string{a, b, c}))
				}
			}
		}
	}
}

func TestPartsOfAllShortVectors(t *testing.T) {
	for width := 1; width <= 3; width++ {
		for _, a := range allVectors(width) {
			padded := "xxxx" + a + "xxxx"
			for low := -4; low < width+4; low++ {
				for high := low; high < width+4; high++ {
					end := width + 4 // where bit -1 stands
					wants(t, "Part of "+a, impl.Part(a, high, low), padded[end-1-high:end-low])
				}
			}
			for w := 1; w <= 6; w++ {
				zero, sign := a, a
				for len(zero) < w {
					zero, sign = "0"+zero, a[:1]+sign
				}
				wants(t, "Resize of "+a, impl.Resize(a, w, false), zero[len(zero)-w:])
				wants(t, "Resize of "+a, impl.Resize(a, w, true), sign[len(sign)-w:])
			}
		}
	}
}

// fillings has every known vector that a may be.
func fillings(a string) []string {
	list := []string{""}
	for i := range len(a) {
		var longer []string
		for _, v := range list {
			if a[i] != '1' {
				longer = append(longer, v+"0")
			}
			if a[i] != '0' {
				longer = append(longer, v+"1")
			}
		}
		list = longer
	}
	return list
}

// holdsFor tells whether the bits of a that are 0 or 1 are so in b.
func holdsFor(a, b string) bool {
	if len(a) != len(b) {
		return false
	}
	for i := range len(a) {
		if (a[i] == '0' || a[i] == '1') && a[i] != b[i] {
			return false
		}
	}
	return true
}

func TestPromise2WhateverTheUnknownBitsAre(t *testing.T) {
	all := append(append(allVectors(1), allVectors(2)...), "x01", "1z0", "zz1", "0xz")
	for _, a := range all {
		for op := impl.OpNot; op <= impl.OpNone; op++ {
			for _, known := range fillings(a) {
				if !holdsFor(impl.Unary(op, a), impl.Unary(op, known)) {
					t.Errorf("operation %d of %q and %q", op, a, known)
				}
			}
		}
		for _, b := range all {
			for op := impl.OpAnd; op <= impl.OpEither; op++ {
				if op != impl.OpSame {
					holdFillings(t, op, a, b)
				}
			}
		}
	}
}

func holdFillings(t *testing.T, op int, a, b string) {
	t.Helper()
	for _, signed := range []bool{false, true} {
		got := impl.Binary(op, signed, a, b)
		for _, knownA := range fillings(a) {
			for _, knownB := range fillings(b) {
				if !holdsFor(got, impl.Binary(op, signed, knownA, knownB)) {
					t.Errorf("operation %d, signed %v, of %q and %q is %q, but not of %q and %q", op, signed, a, b, got, knownA, knownB)
				}
			}
		}
	}
}

func TestPromise2ChoosesWhateverTheUnknownBitsAre(t *testing.T) {
	for _, c := range append(allVectors(1), allVectors(2)...) {
		for _, a := range allVectors(2) {
			for _, b := range allVectors(2) {
				holdChosenFillings(t, c, a, b)
			}
		}
	}
}

func holdChosenFillings(t *testing.T, c, a, b string) {
	t.Helper()
	got := impl.Choose(c, a, b)
	for _, knownC := range fillings(c) {
		for _, knownA := range fillings(a) {
			for _, knownB := range fillings(b) {
				if !holdsFor(got, impl.Choose(knownC, knownA, knownB)) {
					t.Errorf("Choose of %q, %q and %q is %q, but not of %q, %q and %q", c, a, b, got, knownC, knownA, knownB)
				}
			}
		}
	}
}
