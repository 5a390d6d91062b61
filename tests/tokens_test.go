package tests

import (
	"math/big"
	"slices"
	"strings"
	"testing"

	"loop.example/g00031/impl"
)

// allMarks are in the document's order.
func allMarks() []string {
	return strings.Fields("=== >>> <= >= == != << >> && || .. + - * / % & | ^ ~ ! < > = ? : ; , . ( ) [ ] { } #")
}

// wantsTokens takes the tokens' texts, with their kinds ahead: n a name, d a
// number, m a mark.
func wantsTokens(t *testing.T, text string, want ...string) {
	t.Helper()
	list, code, at := impl.Tokens(text)
	if code != impl.OK || at != 0 || len(list) != len(want) {
		t.Errorf("%.100q: %v, code %d at %d, not %q", text, list, code, at, want)
		return
	}
	kinds := []string{impl.TokName: "n", impl.TokNumber: "d", impl.TokMark: "m"}
	for i, token := range list {
		if kinds[token.Kind]+token.Text != want[i] || !strings.HasPrefix(text[token.At:], token.Text) {
			t.Errorf("%.100q: token %d is %v, not %q", text, i, token, want[i])
		}
	}
}

func wantsFault(t *testing.T, text string, code, at int) {
	t.Helper()
	list, gotCode, gotAt := impl.Tokens(text)
	if len(list) != 0 || gotCode != code || gotAt != at {
		t.Errorf("%.100q: %d tokens, code %d at %d, not %d at %d", text, len(list), gotCode, gotAt, code, at)
	}
}

func TestTokens(t *testing.T) {
	wantsTokens(t, "")
	wantsTokens(t, " \n \n\n")
	wantsTokens(t, " a b\nc ", "na", "nb", "nc")
	wantsTokens(t, "a1_B _ _9 Zz", "na1_B", "n_", "n_9", "nZz")
	wantsTokens(t, "12abc 007", "d12", "nabc", "d007")
	wantsTokens(t, "module m(a);", "nmodule", "nm", "m(", "na", "m)", "m;")
	wantsTokens(t, "a.b 1..2 a...b", "na", "m.", "nb", "d1", "m..", "d2", "na", "m..", "m.", "nb")
	wantsTokens(t, "a//b", "na", "m/", "m/", "nb")
}

func TestTokensOfNumbers(t *testing.T) {
	wantsTokens(t, "4'b01xz 4'sb1 8'o7 8'hff 8'd9", "d4'b01xz", "d4'sb1", "d8'o7", "d8'hff", "d8'd9")
	wantsTokens(t, "4'bd 4'db 4'dd 4'sdz", "d4'bd", "d4'db", "d4'dd", "d4'sdz")
	wantsTokens(t, "8'hxyz 8'hfg 8'h1s", "d8'hx", "nyz", "d8'hf", "ng", "d8'h1", "ns")
}

func TestTokensMarks(t *testing.T) {
	for _, mark := range allMarks() {
		wantsTokens(t, mark, "m"+mark)
		wantsTokens(t, "a"+mark+"b", "na", "m"+mark, "nb")
		wantsTokens(t, mark+" "+mark, "m"+mark, "m"+mark)
	}
	wantsTokens(t, "====", "m===", "m=")
	wantsTokens(t, "=====", "m===", "m==")
	wantsTokens(t, ">>>>", "m>>>", "m>")
	wantsTokens(t, ">>>=", "m>>>", "m=")
	wantsTokens(t, ">>=", "m>>", "m=")
	wantsTokens(t, "<<=", "m<<", "m=")
	wantsTokens(t, "<==", "m<=", "m=")
	wantsTokens(t, "!==", "m!=", "m=")
	wantsTokens(t, "&&&|||", "m&&", "m&", "m||", "m|")
	wantsTokens(t, "= == !", "m=", "m==", "m!")
}

// firstMark is the first one of the list that stands there.
func firstMark(text string) string {
	for _, mark := range allMarks() {
		if strings.HasPrefix(text, mark) {
			return mark
		}
	}
	return ""
}

func TestTokensOfAllShortRunsOfMarks(t *testing.T) {
	letters := "=><!&|.+/"
	runs := []string{""}
	for range 4 {
		for _, run := range slices.Clone(runs) {
			for i := range len(letters) {
				runs = append(runs, run+letters[i:i+1])
			}
		}
	}
	for _, run := range runs {
		var want []string
		for rest := run; rest != ""; rest = rest[len(firstMark(rest)):] {
			want = append(want, "m"+firstMark(rest))
		}
		wantsTokens(t, run, want...)
	}
}

func TestTokensFaults(t *testing.T) {
	fits, tooLong := longNames()
	wantsTokens(t, fits+" "+fits, "n"+fits, "n"+fits)
	wantsFault(t, tooLong, impl.ErrName, 0)
	wantsFault(t, "a "+tooLong+" @", impl.ErrName, 2)
	wantsFault(t, "12"+tooLong, impl.ErrName, 2)
	for _, stranger := range []string{"@", "\x60", "'", "\"", "$", "\\", "\t", "\r", "\x00", "\x7f", "\x80", "\xff", "\u00e9"} {
		wantsFault(t, stranger, impl.ErrForm, 0)
		wantsFault(t, "ab "+stranger+" 4'", impl.ErrForm, 3)
		wantsFault(t, "ab"+stranger, impl.ErrForm, 2)
	}
	for _, number := range []string{"4'", "4' b1", "4'b", "4'b ", "4'b_1", "4's", "4'sb", "4'ssb1", "4'bs1", "4's1", "4'q1", "4'B1", "4'Sb1", "4'hF", "4'bX", "4'1", "4''b1", "4'b\n1", "4'bg"} {
		wantsFault(t, number, impl.ErrForm, 0)
		wantsFault(t, "a+"+number, impl.ErrForm, 2)
	}
	wantsFault(t, "'b1", impl.ErrForm, 0)
}

func TestTokensLimits(t *testing.T) {
	all := strings.Repeat("a ", impl.MaxTokens)
	for _, text := range []string{all, all + "\n \n", strings.Repeat(";", impl.MaxTokens)} {
		if list, code, at := impl.Tokens(text); len(list) != impl.MaxTokens || code != impl.OK || at != 0 {
			t.Errorf("%d tokens, code %d at %d", len(list), code, at)
		}
	}
	wantsFault(t, all+"b", impl.ErrMany, len(all))
	wantsFault(t, all+" \n+@", impl.ErrMany, len(all)+2)
	wantsFault(t, strings.Repeat(";", impl.MaxTokens+1), impl.ErrMany, impl.MaxTokens)
	wantsFault(t, "@"+all+"b", impl.ErrForm, 0)
	// what is no token is not one too many
	_, tooLong := longNames()
	wantsFault(t, all+"@", impl.ErrForm, len(all))
	wantsFault(t, all+"4'", impl.ErrForm, len(all))
	wantsFault(t, all+tooLong, impl.ErrName, len(all))

	wantsTokens(t, strings.Repeat(" ", impl.MaxText-1)+"a", "na")
	wantsFault(t, strings.Repeat(" ", impl.MaxText)+"a", impl.ErrLong, 0)
	wantsFault(t, strings.Repeat("@", impl.MaxText+1), impl.ErrLong, 0)
	digits := strings.Repeat("1", impl.MaxText)
	wantsTokens(t, digits, "d"+digits)
}

func wantsNumber(t *testing.T, text, bits string, signed bool, code int) {
	t.Helper()
	gotBits, gotSigned, gotCode := impl.NumberBits(text)
	if gotBits != bits || gotSigned != signed || gotCode != code {
		t.Errorf("%.100q: %q %v %d, not %q %v %d", text, gotBits, gotSigned, gotCode, bits, signed, code)
	}
}

func TestNumbersOfDigitsAlone(t *testing.T) {
	wantsNumber(t, "0", strings.Repeat("0", 32), true, impl.OK)
	wantsNumber(t, "1", strings.Repeat("0", 31)+"1", true, impl.OK)
	wantsNumber(t, "10", strings.Repeat("0", 28)+"1010", true, impl.OK)
	wantsNumber(t, "2147483647", "0"+strings.Repeat("1", 31), true, impl.OK)
	wantsNumber(t, strings.Repeat("0", impl.MaxLine-1)+"1", strings.Repeat("0", 31)+"1", true, impl.OK)
	for _, much := range []string{"2147483648", "4294967296", "18446744073709551616", "99999999999999999999999", strings.Repeat("9", impl.MaxLine)} {
		wantsNumber(t, much, "", false, impl.ErrRange)
	}
}

func TestNumbersOfBases(t *testing.T) {
	ones, zeros := strings.Repeat("1", impl.MaxWidth), strings.Repeat("0", impl.MaxWidth)
	for _, c := range []struct{ text, bits string }{
		{"1'b0", "0"}, {"1'b1", "1"}, {"1'bx", "x"}, {"1'bz", "z"}, {"1'd0", "0"}, {"1'd1", "1"}, {"1'o1", "1"}, {"1'h1", "1"}, {"1'h0", "0"},
		{"4'b1", "0001"}, {"4'b0", "0000"}, {"4'bx", "xxxx"}, {"4'bz", "zzzz"}, {"4'b1x", "001x"}, {"4'bx1", "xxx1"}, {"4'bz0", "zzz0"}, {"4'bxz", "xxxz"}, {"4'bzx", "zzzx"},
		{"4'b0x", "000x"}, {"4'b01xz", "01xz"}, {"4'b00001", "0001"}, {"4'b0000zx01", "zx01"},
		{"6'o17", "001111"}, {"8'o17", "00001111"}, {"8'ox", "xxxxxxxx"}, {"8'ox7", "xxxxx111"}, {"8'o7x", "00111xxx"}, {"5'o37", "11111"}, {"5'o07", "00111"}, {"1'o01", "1"},
		{"6'o7z", "111zzz"}, {"3'o0", "000"}, {"2'o3", "11"},
		{"4'hf", "1111"}, {"8'hxf", "xxxx1111"}, {"12'hzf", "zzzzzzzz1111"}, {"12'h0xf", "0000xxxx1111"}, {"9'h1ff", "111111111"}, {"7'h7f", "1111111"}, {"8'h0a", "00001010"}, {"8'h00a", "00001010"},
		{"8'hbe", "10111110"}, {"8'hdc", "11011100"}, {"8'h98", "10011000"},
		{"3'd7", "111"}, {"8'd255", "11111111"}, {"8'd000255", "11111111"}, {"8'd0", "00000000"}, {"5'd9", "01001"},
		{"64'd18446744073709551615", ones}, {"64'd0", zeros}, {"64'hffffffffffffffff", ones}, {"64'h0", zeros}, {"64'hx", strings.Repeat("x", 64)}, {"64'bz", strings.Repeat("z", 64)},
		{"64'b" + ones, ones}, {"64'b0" + ones, ones}, {"64'o1777777777777777777777", ones}, {"63'd9223372036854775807", ones[1:]}, {"64'd9223372036854775808", "1" + zeros[1:]},
		{"0004'b1", "0001"}, {"064'h0", zeros},
	} {
		wantsNumber(t, c.text, c.bits, false, impl.OK)
		wantsNumber(t, strings.Replace(c.text, "'", "'s", 1), c.bits, true, impl.OK)
	}
}

func TestNumberFaults(t *testing.T) {
	for _, text := range []string{"2'b100", "2'b111", "2'bx00", "2'bz11", "2'bxxx", "3'hf", "3'hx", "3'hz", "1'ox", "5'o77", "5'o47", "2'o4", "3'h8", "3'd8", "1'd2", "8'd256", "64'd18446744073709551616", "64'd99999999999999999999", "63'd9223372036854775808", "64'h1ffffffffffffffff", "64'h10000000000000000", "64'o2777777777777777777777"} {
		wantsNumber(t, text, "", false, impl.ErrRange)
		wantsNumber(t, strings.Replace(text, "'", "'s", 1), "", false, impl.ErrRange)
	}
	for _, text := range []string{"0'b1", "65'b1", "0'd0", "65'hx", "000'b1", "100'b0", "18446744073709551616'b1", "18446744073709551617'b1", strings.Repeat("9", 900) + "'b1"} {
		wantsNumber(t, text, "", false, impl.ErrWidth)
	}
	for _, text := range []string{"4'b2", "4'b12", "4'b1f", "4'ba", "4'o8", "4'o9", "4'oa", "4'o18", "4'da", "4'd1f", "4'dx", "4'd1x", "4'dz", "4'd99999999999999999999f"} {
		wantsNumber(t, text, "", false, impl.ErrForm)
	}
	for _, text := range []string{"", " ", "a", "x", "'b1", "4'", "4'b", "4'sb", "4's", "4'q1", "4'B1", "4'hF", "4'bX", " 1", "1 ", "1\n", "1a", "4'b1 ", "4'b1_0", "4'b1g", "-1", "+1", "1+1", "1.0", "0x1", "4'b1'b1", "4 'b1", "4' b1", "\x00", "\xff", "\u0661"} {
		wantsNumber(t, text, "", false, impl.ErrForm)
	}
}

func TestNumberOrderOfFaults(t *testing.T) {
	wantsNumber(t, "0'b2", "", false, impl.ErrWidth)
	wantsNumber(t, "65'dx", "", false, impl.ErrWidth)
	wantsNumber(t, "0'b", "", false, impl.ErrForm)
	wantsNumber(t, "1'b112", "", false, impl.ErrForm)
	wantsNumber(t, "1'd99f", "", false, impl.ErrForm)
	wantsNumber(t, strings.Repeat("@", impl.MaxLine+1), "", false, impl.ErrLong)
	wantsNumber(t, strings.Repeat("0", impl.MaxLine+1), "", false, impl.ErrLong)
	wantsNumber(t, strings.Repeat("@", impl.MaxText+1), "", false, impl.ErrLong)
	wantsNumber(t, strings.Repeat("@", impl.MaxLine), "", false, impl.ErrForm)
	wantsNumber(t, "4'b"+strings.Repeat("0", impl.MaxLine-4)+"1", "0001", false, impl.OK)
	wantsNumber(t, "4'h"+strings.Repeat("0", impl.MaxLine-4)+"1", "0001", false, impl.OK)
	wantsNumber(t, "4'b"+strings.Repeat("0", impl.MaxLine-3)+"1", "", false, impl.ErrLong)
}

// Every known number of a width and base is the number that it says, modulo
// nothing: either it fits or it is told that it does not.
func TestNumbersSayTheirNumbers(t *testing.T) {
	bases := map[string]int{"b": 2, "o": 8, "d": 10, "h": 16}
	seed := uint64(7)
	for width := 1; width <= impl.MaxWidth; width++ {
		for range 40 {
			seed = stirred(seed)
			value := new(big.Int).SetUint64(seed >> (seed % 64))
			for letter, base := range bases {
				text := big.NewInt(int64(width)).String() + "'" + letter + value.Text(base)
				if value.BitLen() <= width {
					wantsNumber(t, text, lowestBits(value, width), false, impl.OK)
				} else {
					wantsNumber(t, text, "", false, impl.ErrRange)
				}
			}
		}
	}
}
