package tests

import (
	"fmt"
	"slices"
	"strings"
	"testing"

	"loop.example/g00031/impl"
)

const quote = "\x60"

// quoted writes a backquote where a text has a @, which no source of these
// tests needs for itself.
func quoted(text string) string { return strings.ReplaceAll(text, "@", quote) }

// filesOf makes files out of names and texts by turns.
func filesOf(parts ...string) []impl.File {
	var files []impl.File
	for i := 0; i < len(parts); i += 2 {
		files = append(files, impl.File{Name: parts[i], Text: quoted(parts[i+1])})
	}
	return files
}

func wantsText(t *testing.T, files []impl.File, want string) {
	t.Helper()
	text, from, code := impl.Preprocess(files, "top")
	if text != want || code != impl.OK || len(from) != strings.Count(want, "\n") {
		t.Errorf("%.300q: %.300q, %d origins, code %d, not %.300q", files, text, len(from), code, want)
	}
}

func wantsCode(t *testing.T, files []impl.File, want int) {
	t.Helper()
	text, from, code := impl.Preprocess(files, "top")
	if code != want {
		t.Errorf("%.300q: code %d, not %d", files, code, want)
	}
	if code != impl.OK && (text != "" || len(from) != 0) {
		t.Errorf("%.300q: code %d, and yet %.300q with %d origins", files, code, text, len(from))
	}
}

// sourceCase is a text of the file top and what comes of it: a text, or a code.
type sourceCase struct {
	in, out string
	code    int
}

func holdSources(t *testing.T, cases []sourceCase) {
	t.Helper()
	for _, c := range cases {
		if c.code == impl.OK {
			wantsText(t, filesOf("top", c.in), c.out)
		} else {
			wantsCode(t, filesOf("top", c.in), c.code)
		}
	}
}

func TestSourceConstants(t *testing.T) {
	got := []int{
		impl.MaxName, impl.MaxLine, impl.MaxFiles, impl.MaxMacros, impl.MaxNest, impl.MaxUsed, impl.MaxTokens,
		impl.TokName, impl.TokNumber, impl.TokMark,
	}
	if want := []int{24, 1000, 16, 64, 8, 4096, 16384, 1, 2, 3}; !slices.Equal(got, want) {
		t.Errorf("%v, not %v", got, want)
	}
}

func TestSourceLines(t *testing.T) {
	holdSources(t, []sourceCase{
		{in: "", out: ""},
		{in: "\n", out: "\n"},
		{in: "\n\n", out: "\n\n"},
		{in: "a", out: "a\n"},
		{in: "a\n", out: "a\n"},
		{in: "a\n\nb", out: "a\n\nb\n"},
		{in: " ", out: "\n"},
		{in: "\t", out: "\n"},
		{in: "a \t \nb\t", out: "a\nb\n"},
		{in: "\ta\tb\t\t", out: " a b\n"},
		{in: "a//b", out: "a\n"},
		{in: "a \t// b\n", out: "a\n"},
		{in: "//", out: "\n"},
		{in: "// @no\n//@include no\n", out: "\n\n"},
		{in: "a / / b /", out: "a / / b /\n"},
		{in: "a/// b", out: "a\n"},
		{in: "a /*// b", out: "a /*\n"},
		{in: "~ !", out: "~ !\n"},
	})
}

func TestSourceNotesAndBlanksOfMacros(t *testing.T) {
	holdSources(t, []sourceCase{
		{in: "@define A x // note\n[@A]", out: "[x]\n"},
		{in: "@define A// note\n[@A]", out: "[]\n"},
		{in: "@define A\t\t x\ty \t\n[@A]", out: "[x y]\n"},
		{in: "\t @define A x\n \t@A", out: "  x\n"},
		{in: "@define A x\n@undef A// note\n@ifndef A // note\nok\n@else\t// note\nno\n@endif // note", out: "ok\n"},
		{in: "@define S /\n@S@S @S/", out: "// //\n"},
		{in: "@define E\na @E", out: "a \n"},
		{in: "@define E\n@E", out: "\n"},
		{in: "@define A // @B\n@A", out: "\n"},
	})
}

func TestSourceDirectives(t *testing.T) {
	holdSources(t, []sourceCase{
		{in: "@define A 1\n@define A 2\n@A", out: "2\n"},
		{in: "@define A 1\n@A\n@undef A\n@define A 2\n@A", out: "1\n2\n"},
		{in: "@undef A", out: ""},
		{in: "@undef define", out: ""},
		{in: "@ifdef define\nno\n@else\nok\n@endif", out: "ok\n"},
		{in: "@define A @B c\n@define B b\n@A@A", out: "b cb c\n"},
		{in: "@define definex 1\n@definex", out: "1\n"},
		{in: "@define else_ 1\n@define _else 2\n@else_@_else", out: "12\n"},
		{in: "@define Else 1\n@Else", out: "1\n"},
		{in: "@define A_9 1\n@A_9.@A_9", out: "1.1\n"},
		{in: "@define A define\nB @A", out: "B define\n"},
		{in: "@define A @define B 1\n@A", code: impl.ErrName},
		{in: "a @define B 1", code: impl.ErrName},
		{in: "@ define B 1", code: impl.ErrName},
		{in: "@", code: impl.ErrName},
		{in: "@@", code: impl.ErrName},
		{in: "@9", code: impl.ErrName},
		{in: "a@", code: impl.ErrName},
		{in: "@a", code: impl.ErrName},
		{in: "@Define A", code: impl.ErrName},
		{in: "@define A 1\n@undef A\n@A", code: impl.ErrName},
	})
}

func TestSourceDirectiveForms(t *testing.T) {
	holdSources(t, []sourceCase{
		{in: "@define", code: impl.ErrForm},
		{in: "@define \t", code: impl.ErrForm},
		{in: "@define // A", code: impl.ErrForm},
		{in: "@undef", code: impl.ErrForm},
		{in: "@undef a b", code: impl.ErrForm},
		{in: "@undef 9 b", code: impl.ErrForm},
		{in: "@ifdef", code: impl.ErrForm},
		{in: "@ifdef A B\n@endif", code: impl.ErrForm},
		{in: "@ifndef", code: impl.ErrForm},
		{in: "@ifndef A @B\n@endif", code: impl.ErrForm},
		{in: "@include", code: impl.ErrForm},
		{in: "@include no such", code: impl.ErrForm},
		{in: "@else", code: impl.ErrForm},
		{in: "@endif", code: impl.ErrForm},
		{in: "@ifdef A\n@else x\n@endif", code: impl.ErrForm},
		{in: "@ifdef A\n@else;\n@endif", code: impl.ErrForm},
		{in: "@ifdef A\n@endif A", code: impl.ErrForm},
		{in: "@ifdef A", code: impl.ErrForm},
		{in: "@ifndef A\n@else", code: impl.ErrForm},
		{in: "@ifdef A\n@endif\n@endif", code: impl.ErrForm},
		{in: "@ifdef A\n@else\n@else\n@endif", code: impl.ErrForm},
		{in: "@ifndef A\n@else\n@else\n@endif", code: impl.ErrForm},
		{in: "@define 9 x", code: impl.ErrName},
		{in: "@define A(x) y", code: impl.ErrName},
		{in: "@define(A) y", code: impl.ErrName},
		{in: "@define @A y", code: impl.ErrName},
		{in: "@undef a-b", code: impl.ErrName},
		{in: "@ifdef 1\n@endif", code: impl.ErrName},
		{in: "@ifndef @A\n@endif", code: impl.ErrName},
		{in: "@include lib.v", code: impl.ErrName},
		{in: "@include \"lib\"", code: impl.ErrName},
		{in: "@include no", code: impl.ErrMissing},
		{in: "@include Top", code: impl.ErrMissing},
	})
	for _, word := range []string{"define", "undef", "ifdef", "ifndef", "else", "endif", "include"} {
		wantsCode(t, filesOf("top", "@define "+word+" x"), impl.ErrName)
		wantsCode(t, filesOf("top", "a @"+word), impl.ErrName)
	}
}

func TestSourceConditions(t *testing.T) {
	holdSources(t, []sourceCase{
		{in: "@define A\n@ifdef A\na\n@else\nb\n@endif\nc", out: "a\nc\n"},
		{in: "@ifdef A\na\n@else\nb\n@endif\nc", out: "b\nc\n"},
		{in: "@ifndef A\na\n@else\nb\n@endif\nc", out: "a\nc\n"},
		{in: "@ifdef A\na\n@endif\nc", out: "c\n"},
		{in: "@define A\n@undef A\n@ifdef A\na\n@endif\nc", out: "c\n"},
		{in: "@ifdef A\n@ifdef B\na\n@else\nb\n@endif\nc\n@else\nd\n@endif", out: "d\n"},
		{in: "@ifdef A\n@ifndef B\na\n@else\nb\n@endif\nc\n@endif", out: ""},
		{in: "@ifndef A\n@ifndef B\na\n@else\nb\n@endif\nc\n@else\nd\n@endif", out: "a\nc\n"},
		{in: "@ifndef A\n@ifdef B\na\n@else\nb\n@endif\nc\n@else\nd\n@endif", out: "b\nc\n"},
		{in: "@ifdef A\n@define B\n@include no\n@undef\n@define\n@no @ @9\n@endif\n@ifdef B\nno\n@endif", out: ""},
		{in: "@ifdef A\n@ifdef\n@ifndef 9 8 7\n@endif\n@endif\n@endif", out: ""},
		{in: "@ifndef A\n@else\n@ifdef\n@else\nno\n@endif\n@endif\nc", out: "c\n"},
		{in: "@ifdef A\n@ifdefs\n@endif", out: ""},
		{in: "@ifdef A\nx @endif\n@endif\nc", out: "c\n"},
		{in: "@ifdef A\n//@endif\n@endif\nc", out: "c\n"},
		{in: "@ifdef A\n@else x\n@endif", code: impl.ErrForm},
		{in: "@ifdef A\n@ifdef B\n@else x\n@endif\n@endif", code: impl.ErrForm},
		{in: "@ifdef A\n@ifdef B\n@endif x\n@endif", code: impl.ErrForm},
		{in: "@ifdef A\n@ifdef B\n@else\n@else\n@endif\n@endif", code: impl.ErrForm},
		{in: "@ifdef A\n@ifdef B\n@endif", code: impl.ErrForm},
	})
}

func TestSourceFilesHaveTheirOwnConditions(t *testing.T) {
	wantsCode(t, filesOf("top", "@ifndef A\n@include lib\n@endif", "lib", "@endif"), impl.ErrForm)
	wantsCode(t, filesOf("top", "@ifndef A\n@include lib\n@endif", "lib", "@else"), impl.ErrForm)
	wantsCode(t, filesOf("top", "@include lib\n@endif", "lib", "@ifdef A"), impl.ErrForm)
	wantsText(t, filesOf("top", "@ifndef A\n@include lib\n@endif\nb", "lib", "@ifdef A\n@else\na\n@endif"), "a\nb\n")
	// the macros are of all files
	wantsText(t, filesOf("top", "@include lib\n@A", "lib", "@define A 1\n@ifdef B\n@B\n@endif"), "1\n")
	wantsText(t, filesOf("top", "@define B 2\n@include lib\n@A", "lib", "@define A 1\n@ifdef B\n@B\n@endif"), "2\n1\n")
}

func TestSourceOrigins(t *testing.T) {
	files := filesOf("lib", "x\n@include low\ny", "low", "\n@define A 1\nz", "top", "@include lib\n\n@ifdef A\na // b\n@else\nb\n@endif\n@include low", "other", "no")
	text, from, code := impl.Preprocess(files, "top")
	want := []impl.Origin{{File: 0, Line: 1}, {File: 1, Line: 1}, {File: 1, Line: 3}, {File: 0, Line: 3}, {File: 2, Line: 2}, {File: 2, Line: 4}, {File: 1, Line: 1}, {File: 1, Line: 3}}
	if text != "x\n\nz\ny\n\na\n\nz\n" || !slices.Equal(from, want) || code != impl.OK {
		t.Errorf("%q %v %d", text, from, code)
	}
}

func TestSourceMacros(t *testing.T) {
	holdSources(t, []sourceCase{
		{in: "@define A a@B@B\n@define B b@C\n@define C c\n@A-@C", out: "abcbc-c\n"},
		{in: "@define A @B\n@define B 1\n@A\n@define B 2\n@A", out: "1\n2\n"},
		{in: "@define A 1\n@A@A.@A", out: "11.1\n"},
		{in: "@define A @F\n@define F f\n@define FO no\n@A-O", out: "f-O\n"},
		{in: "@define A @F\n@define B @A\n@define F f\n@B@B", out: "ff\n"},
		{in: "@define A @\n@define B b\n@A@B", code: impl.ErrName},
		{in: "@define A @\n@define B b\n@A", code: impl.ErrName},
		{in: "@define A B\n@define B b\n@@A", code: impl.ErrName},
		{in: "@define A a\n@AB", code: impl.ErrName},
		{in: "@define A a\n@A@B", code: impl.ErrName},
		{in: "@define A @A\n@A", code: impl.ErrDeep},
		{in: "@define A x@B\n@define B y@A\n@A", code: impl.ErrDeep},
		{in: "@define A @A", out: ""},
	})
}

// longNames gives a name as long as can be and one that is longer.
func longNames() (string, string) {
	name := strings.Repeat("a", impl.MaxName)
	return name, name + "b"
}

func TestSourceNameLengths(t *testing.T) {
	fits, tooLong := longNames()
	holdSources(t, []sourceCase{
		{in: "@define " + fits + " 1\n@" + fits, out: "1\n"},
		{in: "@define " + fits + " 1\n@" + tooLong, code: impl.ErrName},
		{in: "@define " + tooLong + " 1", code: impl.ErrName},
		{in: "@undef " + fits, out: ""},
		{in: "@undef " + tooLong, code: impl.ErrName},
		{in: "@ifdef " + fits + "\n@endif", out: ""},
		{in: "@ifdef " + tooLong + "\n@endif", code: impl.ErrName},
		{in: "@ifndef " + fits + "\n@endif", out: ""},
		{in: "@ifndef " + tooLong + "\n@endif", code: impl.ErrName},
		{in: "@include " + fits, code: impl.ErrMissing},
		{in: "@include " + tooLong, code: impl.ErrName},
	})
	wantsText(t, filesOf("top", "@include "+fits, fits, "a"), "a\n")
	wantsCode(t, filesOf("top", "a", tooLong, "b"), impl.ErrBad)
}

func TestSourceFiles(t *testing.T) {
	long := strings.Repeat("a\n", impl.MaxText/2)
	for _, name := range []string{"", "9", "a.v", "a b", " a", "a\n", "\u00e9", "a\x00"} {
		wantsCode(t, filesOf("top", "a", name, "b"), impl.ErrBad)
	}
	wantsCode(t, filesOf("top", "a", "lib", "b", "top", "a"), impl.ErrTwice)
	wantsCode(t, filesOf("top", "a", "lib", long+"a"), impl.ErrLong)
	wantsText(t, filesOf("top", "a", "lib", long), "a\n")
	for _, r := range []string{"\x00", "\x01", "\x08", "\x0b", "\r", "\x1f", "\x7f", "\x80", "\xff", "\u00e9", "\ufffd"} {
		wantsCode(t, filesOf("top", "a", "lib", "b//"+r), impl.ErrForm)
		wantsCode(t, filesOf("top", r), impl.ErrForm)
	}
	wantsCode(t, nil, impl.ErrMissing)
	wantsCode(t, []impl.File{}, impl.ErrMissing)
	wantsCode(t, filesOf("Top", "a"), impl.ErrMissing)
	for _, top := range []string{"", "a b", "toP", "top ", strings.Repeat("t", impl.MaxText)} {
		if _, _, code := impl.Preprocess(filesOf("top", "a"), top); code != impl.ErrMissing {
			t.Errorf("%.30q: %d", top, code)
		}
	}
	tooMany := make([]impl.File, impl.MaxFiles+1)
	if _, _, code := impl.Preprocess(tooMany, strings.Repeat("t", impl.MaxText+1)); code != impl.ErrLong {
		t.Errorf("too long a name: %d", code)
	}
}

// manyFiles has the file top and others, n in all.
func manyFiles(n int) []impl.File {
	files := filesOf("top", "a")
	for i := 1; i < n; i++ {
		files = append(files, impl.File{Name: fmt.Sprint("f", i), Text: "b"})
	}
	return files
}

func TestSourceFileCount(t *testing.T) {
	wantsText(t, manyFiles(impl.MaxFiles), "a\n")
	full := manyFiles(impl.MaxFiles)
	full[0].Text = quoted(fmt.Sprintf("@include f%d", impl.MaxFiles-1))
	wantsText(t, full, "b\n")
	wantsCode(t, manyFiles(impl.MaxFiles+1), impl.ErrMany)
	wantsCode(t, manyFiles(impl.MaxList+1), impl.ErrMany)
}

func TestSourceOrderOfFileFaults(t *testing.T) {
	long := strings.Repeat("\x01", impl.MaxText+1)
	wantsCode(t, append(manyFiles(impl.MaxFiles), impl.File{Name: "9"}), impl.ErrMany)
	wantsCode(t, filesOf("a", "\x01", "b", long, "b", "", "9", ""), impl.ErrBad)
	wantsCode(t, filesOf("a", "\x01", "b", long, "b", ""), impl.ErrTwice)
	wantsCode(t, filesOf("a", "\x01", "b", long), impl.ErrLong)
	wantsCode(t, filesOf("a", "b", "c", "\x01"), impl.ErrForm)
	wantsCode(t, filesOf("a", "b"), impl.ErrMissing)
	wantsCode(t, filesOf("top", "@", "c", "\x01"), impl.ErrForm)
}

func TestSourceOrderOfFaults(t *testing.T) {
	wide := strings.Repeat("w", impl.MaxLine)
	holdSources(t, []sourceCase{
		{in: "@no\n@endif", code: impl.ErrName},
		{in: "@endif\n@no", code: impl.ErrForm},
		{in: "@ifdef A\n@endif x\n@no", code: impl.ErrForm},
		{in: "@ifndef A\n@no\n", code: impl.ErrName},
		{in: "@include no\n@no", code: impl.ErrMissing},
		{in: wide + "@no", code: impl.ErrName},
		{in: wide + "w@no", code: impl.ErrLong},
		{in: "@no" + wide + "w", code: impl.ErrName},
		{in: "@define A @no\n" + wide + "@A", code: impl.ErrName},
		{in: "@define A w@no\n" + wide + "@A", code: impl.ErrLong},
	})
	wantsCode(t, filesOf("top", "@include lib\n@no", "lib", "@ifdef A"), impl.ErrForm)
	wantsCode(t, filesOf("top", "@ifndef A\n@include lib", "lib", "@no"), impl.ErrName)
}

func definitions(n int) string {
	var text strings.Builder
	for i := range n {
		fmt.Fprintf(&text, "@define M%d %d\n", i, i)
	}
	return text.String()
}

func TestSourceMacroCount(t *testing.T) {
	full := definitions(impl.MaxMacros)
	holdSources(t, []sourceCase{
		{in: full + "@M0 @M63", out: "0 63\n"},
		{in: full + "@define M0 anew\n@M0", out: "anew\n"},
		{in: full + "@undef M5\n@define other 1\n@other", out: "1\n"},
		{in: full + "@define other 1", code: impl.ErrMany},
		{in: full + "@undef no\n@define other 1", code: impl.ErrMany},
		{in: full + "@define 9 1", code: impl.ErrName},
		{in: full + "@define else 1", code: impl.ErrName},
		{in: full + "@define", code: impl.ErrForm},
		{in: full + "@ifdef M0\n@else\n@define other\n@endif", out: ""},
	})
}

func nested(word string, n int) string {
	return strings.Repeat("@"+word+" A\n", n) + "a\n" + strings.Repeat("@endif\n", n)
}

func TestSourceNestedConditions(t *testing.T) {
	all := impl.MaxNest
	holdSources(t, []sourceCase{
		{in: nested("ifndef", all), out: "a\n"},
		{in: nested("ifdef", all), out: ""},
		{in: nested("ifndef", all) + nested("ifndef", all), out: "a\na\n"},
		{in: nested("ifndef", all+1), code: impl.ErrDeep},
		{in: nested("ifdef", all+1), code: impl.ErrDeep},
		{in: strings.Repeat("@ifndef A\n", all) + "@ifndef", code: impl.ErrForm},
		{in: strings.Repeat("@ifndef A\n", all) + "@ifndef 9", code: impl.ErrName},
		{in: strings.Repeat("@ifdef A\n", all) + "@ifndef", code: impl.ErrDeep},
	})
	files := filesOf("top", strings.Repeat("@ifndef A\n", all)+"@include lib\n"+strings.Repeat("@endif\n", all), "lib", nested("ifndef", all))
	wantsText(t, files, "a\n")
}

// includeChain has n files, each of which includes the next one.
func includeChain(n int, last string) []impl.File {
	files := filesOf("top", "@include f1\nt")
	for i := 1; i < n; i++ {
		text := fmt.Sprintf("@include f%d\nt", i+1)
		if i == n-1 {
			text = last
		}
		files = append(files, filesOf(fmt.Sprint("f", i), text)...)
	}
	return files
}

func TestSourceNestedFiles(t *testing.T) {
	all := impl.MaxNest
	wantsText(t, includeChain(all, "a"), "a\n"+strings.Repeat("t\n", all-1))
	wantsCode(t, includeChain(all+1, "a"), impl.ErrDeep)
	wantsCode(t, includeChain(all, "@include no"), impl.ErrMissing)
	wantsCode(t, includeChain(all, "@include no no"), impl.ErrForm)
	wantsCode(t, includeChain(all, "@include 9"), impl.ErrName)
	wantsCode(t, includeChain(all, "@include top"), impl.ErrDeep)
	wantsCode(t, filesOf("top", "@include top"), impl.ErrDeep)
	// nothing bars a file from coming twice, one time behind the other
	wantsText(t, filesOf("top", "@include lib\n@include lib", "lib", "a"), "a\na\n")
	// nor from itself, if a condition ends it
	wantsText(t, filesOf("top", "a\n@ifndef A\n@define A\n@include top\n@endif"), "a\na\n")
}

// macroChain has n macros, each of which uses the next one.
func macroChain(n int, last string) string {
	text := ""
	for i := 1; i < n; i++ {
		text += fmt.Sprintf("@define M%d @M%d\n", i, i+1)
	}
	return text + fmt.Sprintf("@define M%d %s\n", n, last)
}

func TestSourceNestedMacros(t *testing.T) {
	all := impl.MaxNest
	holdSources(t, []sourceCase{
		{in: macroChain(all, "a") + "@M1", out: "a\n"},
		{in: macroChain(all, "a") + "@M1@M1 @M2", out: "aa a\n"},
		{in: macroChain(all+1, "a") + "@M2", out: "a\n"},
		{in: macroChain(all+1, "a") + "@M1", code: impl.ErrDeep},
		{in: macroChain(all, "@no") + "@M1", code: impl.ErrName},
		{in: macroChain(all, "@") + "@M1", code: impl.ErrName},
	})
	// files do not count for macros, nor conditions
	wantsText(t, includeChain(all, macroChain(all, "a")+"@M1"), "a\n"+strings.Repeat("t\n", all-1))
}

// uses has lines with n uses of the macro E, which is empty.
func uses(n int) string {
	const each = 300
	return "@define E\n" + strings.Repeat(strings.Repeat("@E", each)+"\n", n/each) + strings.Repeat("@E", n%each)
}

func TestSourceUses(t *testing.T) {
	all := impl.MaxUsed
	lines := strings.Repeat("\n", all/300+1)
	holdSources(t, []sourceCase{
		{in: uses(all), out: lines},
		{in: uses(all) + "\na", out: lines + "a\n"},
		{in: uses(all + 1), code: impl.ErrWork},
		{in: uses(all) + "@no", code: impl.ErrWork},
		{in: uses(all) + "@", code: impl.ErrWork},
		{in: uses(all-1) + "@no", code: impl.ErrName},
		{in: uses(all) + "\n@include no", code: impl.ErrWork},
		{in: uses(all) + "\n@include", code: impl.ErrForm},
		{in: uses(all-1) + "\n@include no", code: impl.ErrMissing},
		{in: "@define F @E@E\n" + uses(all-3) + "\n@F", out: lines + "\n"},
		{in: "@define F @E@E\n" + uses(all-2) + "\n@F", code: impl.ErrWork},
		{in: "@define F @E@no\n" + uses(all-2) + "\n@F", code: impl.ErrWork},
		{in: "@ifdef A\n" + uses(all+5) + "\n@endif", out: ""},
	})
	wantsText(t, filesOf("top", uses(all-1)+"\n@include lib\na", "lib", "b"), lines+"b\na\n")
	wantsCode(t, filesOf("top", uses(all-1)+"\n@include lib\n@E", "lib", "b"), impl.ErrWork)
	wantsCode(t, filesOf("top", uses(all-1)+"\n@include lib\n@include lib", "lib", "b"), impl.ErrWork)
	wantsText(t, filesOf("top", uses(all)+"\n@ifdef A\n@include lib\n@endif", "lib", "b"), lines)
	wantsCode(t, includeChain(impl.MaxNest, uses(all-impl.MaxNest+1)+"\n@include top"), impl.ErrWork)
	wantsCode(t, includeChain(impl.MaxNest, uses(all-impl.MaxNest)+"\n@include top"), impl.ErrDeep)
}

func TestSourceUsesAtTheDeepest(t *testing.T) {
	deep := macroChain(impl.MaxNest, "@E")
	wantsCode(t, filesOf("top", deep+uses(impl.MaxUsed-impl.MaxNest)+"\n@M1"), impl.ErrWork)
	wantsCode(t, filesOf("top", deep+uses(impl.MaxUsed-impl.MaxNest-1)+"\n@M1"), impl.ErrDeep)
}

func TestSourceIncludesOverAndOver(t *testing.T) {
	wantsText(t, filesOf("top", strings.Repeat("@include l\n", impl.MaxUsed), "l", ""), "")
	wantsCode(t, filesOf("top", strings.Repeat("@include l\n", impl.MaxUsed+1), "l", ""), impl.ErrWork)
	// the most work there can be: much that gives nothing, again and again
	idle := "@ifdef A\n" + strings.Repeat("\n", impl.MaxText-16) + "@endif\n"
	wantsText(t, filesOf("top", strings.Repeat("@include l\n", impl.MaxUsed), "l", idle), "")
}

func TestSourceLineLength(t *testing.T) {
	wide := strings.Repeat("w", impl.MaxLine)
	long := strings.Repeat("l", 5*impl.MaxLine)
	holdSources(t, []sourceCase{
		{in: wide, out: wide + "\n"},
		{in: wide + "  \t", out: wide + "\n"},
		{in: wide + "//" + long, out: wide + "\n"},
		{in: wide + "w", code: impl.ErrLong},
		{in: "\n" + wide + "\n" + wide + "w\n", code: impl.ErrLong},
		{in: strings.Repeat(" ", 5*impl.MaxLine), out: "\n"},
		{in: "@define L " + long + "\na", out: "a\n"},
		{in: "@define L " + long + "\n@L", code: impl.ErrLong},
		{in: "@define W " + wide + "\n@W", out: wide + "\n"},
		{in: "@define W " + wide + "\n@W.", code: impl.ErrLong},
		{in: "@define W " + wide + "\n.@W", code: impl.ErrLong},
		{in: "@ifdef A\n" + long + "\n@endif", out: ""},
	})
	many := strings.Repeat("@Emp", impl.MaxLine)
	wantsText(t, filesOf("top", "@define Emp\n"+many), "\n")
}

func TestSourceLineCount(t *testing.T) {
	all := strings.Repeat("\n", impl.MaxList)
	holdSources(t, []sourceCase{
		{in: all, out: all},
		{in: all + "a", code: impl.ErrMany},
		{in: all + "\n", code: impl.ErrMany},
		{in: all + "@no", code: impl.ErrName},
		{in: all + strings.Repeat("w", impl.MaxLine+1), code: impl.ErrLong},
		{in: all + "@define A a\n@undef A\n", out: all},
		{in: all + "@ifdef A\n\n@endif", out: all},
	})
	wantsCode(t, filesOf("top", all+"@include lib", "lib", "a"), impl.ErrMany)
}

func TestSourceTextLength(t *testing.T) {
	// a macro lets more come out than any file may have
	line := strings.Repeat("w", 511)
	define := "@define W " + line + "\n"
	all := strings.Repeat("@W\n", impl.MaxText/512)
	out := strings.Repeat(line+"\n", impl.MaxText/512)
	holdSources(t, []sourceCase{
		{in: define + all, out: out},
		{in: define + all + "\n", code: impl.ErrLong},
		{in: define + all + "@no", code: impl.ErrName},
		{in: define + all + "@W@W\n", code: impl.ErrLong},
		{in: define + all[3:] + line + "w\n", code: impl.ErrLong},
		{in: define + all[3:] + line[1:] + "\n", out: out[512:] + line[1:] + "\n"},
	})
	// the lines are counted ahead of the bytes
	short := strings.Repeat("\n", impl.MaxList-impl.MaxText/512)
	wantsCode(t, filesOf("top", define+short+all), impl.ErrLong)
	thin := "@define W " + strings.Repeat("w", 15) + "\n" + strings.Repeat("@W\n", impl.MaxList)
	wantsText(t, filesOf("top", thin), strings.Repeat(strings.Repeat("w", 15)+"\n", impl.MaxList))
	wantsCode(t, filesOf("top", thin+"a"), impl.ErrMany)
}

func TestSourceIsNotWritten(t *testing.T) {
	files := make([]impl.File, 2, 3)
	copy(files, filesOf("top", "@include lib\na\tb", "lib", "@define A 1\n@A"))
	behind := impl.File{Name: "behind", Text: "its end"}
	files[:3][2] = behind
	before := slices.Clone(files)
	_, from, _ := impl.Preprocess(files, "top")
	_, again, _ := impl.Preprocess(files, "top")
	if !slices.Equal(files, before) || files[:3][2] != behind {
		t.Error("the files were written into")
	}
	from[0].Line = 99
	if again[0].Line != 2 {
		t.Error("two answers share memory")
	}
}
