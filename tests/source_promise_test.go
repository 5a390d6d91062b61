package tests

import (
	"fmt"
	"slices"
	"strings"
	"testing"

	"loop.example/g00031/impl"
)

// choices gives numbers that look like chance and are the same in every run.
type choices struct{ seed uint64 }

func (c *choices) below(n int) int {
	c.seed = stirred(c.seed)
	return int(c.seed >> 33 % uint64(n))
}

func (c *choices) oneOf(list ...string) string { return list[c.below(len(list))] }

// plainText has lines without backquotes and notes, each with its byte 10.
func plainText(c *choices) string {
	var text strings.Builder
	for range c.below(30) {
		for range c.below(12) {
			text.WriteString(c.oneOf("a", "_9", " ", "  ", "\t", "/ ", "(", "~", "'", "@", "\"", "4'b1", "define", "=", "\\"))
		}
		text.WriteString("\n")
	}
	return text.String()
}

// cleaned is what the promise leaves of a text: blanks for bytes 9, none at
// line ends.
func cleaned(text string) string {
	lines := strings.Split(strings.ReplaceAll(text, "\t", " "), "\n")
	for i, line := range lines {
		lines[i] = strings.TrimRight(line, " ")
	}
	return strings.Join(lines, "\n")
}

func TestPromise3PlainTextsComeOutAsTheyWentIn(t *testing.T) {
	c := &choices{seed: 3}
	for range 3000 {
		text := plainText(c)
		if strings.Contains(text, "//") {
			t.Fatalf("%q has a note", text)
		}
		got, from, code := impl.Preprocess([]impl.File{{Name: "other"}, {Name: "top", Text: text}}, "top")
		if got != cleaned(text) || code != impl.OK || len(from) != strings.Count(text, "\n") {
			t.Fatalf("%q: %q, %d origins, code %d", text, got, len(from), code)
		}
		for i, origin := range from {
			if origin != (impl.Origin{File: 1, Line: i + 1}) {
				t.Fatalf("%q: line %d comes from %v", text, i, origin)
			}
		}
	}
}

func TestPromise3AtTheLimits(t *testing.T) {
	line := strings.Repeat("x", impl.MaxLine) + "\n"
	full := strings.Repeat(line, impl.MaxText/len(line))
	full += strings.Repeat("y", impl.MaxText-len(full)-1) + "\n"
	for _, text := range []string{"", full, strings.Repeat("\n", impl.MaxList), strings.Repeat(strings.Repeat("z", 15)+"\n", impl.MaxList)} {
		wantsText(t, []impl.File{{Name: "top", Text: text}}, text)
	}
}

// told is one file gone through by the words of the document, lines and
// branches first: a condition's lines are cut out of the text whole.
type told struct {
	macros map[string]string
	files  map[string][]string
	out    []string
}

// branches cuts the lines behind an ifdef into those up to its else, those up
// to its endif, and the rest.
func branches(lines []string) (first, second, rest []string) {
	depth, at := 0, -1
	for i, line := range lines {
		word, _, _ := strings.Cut(line, " ")
		switch {
		case word == "@ifdef" || word == "@ifndef":
			depth++
		case word == "@endif" && depth > 0:
			depth--
		case word == "@endif" && at < 0:
			return lines[:i], nil, lines[i+1:]
		case word == "@endif":
			return lines[:at], lines[at+1 : i], lines[i+1:]
		case word == "@else" && depth == 0:
			at = i
		}
	}
	panic("a condition that nothing ends")
}

func (w *told) lines(lines []string) {
	for len(lines) > 0 {
		line := lines[0]
		lines = lines[1:]
		word, rest, _ := strings.Cut(line, " ")
		name, text, _ := strings.Cut(rest, " ")
		switch word {
		case "@define":
			w.macros[name] = text
		case "@undef":
			delete(w.macros, name)
		case "@include":
			w.lines(w.files[name])
		case "@ifdef", "@ifndef":
			first, second, behind := branches(lines)
			if _, there := w.macros[name]; there == (word == "@ifdef") {
				w.lines(first)
			} else {
				w.lines(second)
			}
			lines = behind
		default:
			w.out = append(w.out, w.replaced(line))
		}
	}
}

// replaced takes the macros out of a line one by one; a macro of these tests
// has a name of one letter and uses later letters alone.
func (w *told) replaced(line string) string {
	for strings.Contains(line, "@") {
		at := strings.Index(line, "@")
		line = line[:at] + w.macros[line[at+1:at+2]] + line[at+2:]
	}
	return line
}

// someLines are lines with whole conditions, includes of the files that are
// named, and uses of the macros A to D, which the caller defines ahead.
func someLines(c *choices, depth int, files []string) []string {
	var lines []string
	for range c.below(6) {
		name := c.oneOf("P", "Q", "R")
		switch c.below(8) {
		case 0:
			lines = append(lines, "@define "+name+" "+c.oneOf("", "1", "x y"))
		case 1:
			lines = append(lines, "@undef "+name)
		case 2:
			lines = append(lines, "@define "+c.oneOf("A (@B)", "A @C@D", "B b@C.", "B", "C c", "C @D@D", "D d", "D"))
		case 3, 4:
			if depth > 0 {
				lines = append(lines, "@"+c.oneOf("ifdef", "ifndef")+" "+name)
				lines = append(lines, someLines(c, depth-1, files)...)
				if c.below(2) == 0 {
					lines = append(lines, "@else")
					lines = append(lines, someLines(c, depth-1, files)...)
				}
				lines = append(lines, "@endif")
			}
		case 5:
			if len(files) > 0 {
				lines = append(lines, "@include "+c.oneOf(files...))
			}
		default:
			lines = append(lines, c.oneOf("x", "[@A]", "@B+@A", "- @C", "@D@D", "@A@B@C", ""))
		}
	}
	return lines
}

// ended is the text of lines, each with its byte 10.
func ended(lines []string) string {
	text := strings.Join(lines, "\n")
	if len(lines) > 0 {
		text += "\n"
	}
	return text
}

func TestSourceAgainstTheWordsOfTheDocument(t *testing.T) {
	c := &choices{seed: 11}
	start := []string{"@define A a@B", "@define B b@C@D", "@define C c@D", "@define D d"}
	for range 3000 {
		inner := someLines(c, 3, nil)
		lib := someLines(c, 3, []string{"inner"})
		top := append(slices.Clone(start), someLines(c, 3, []string{"inner", "lib"})...)
		w := &told{macros: map[string]string{}, files: map[string][]string{"inner": inner, "lib": lib}}
		w.lines(top)
		files := filesOf("lib", ended(lib), "top", ended(top), "inner", ended(inner))
		wantsText(t, files, ended(w.out))
		holdOrigins(t, files)
		if t.Failed() {
			return
		}
	}
}

// holdOrigins asks that each line that came out is, with its macros gone, no
// directive and at the place that is told.
func holdOrigins(t *testing.T, files []impl.File) {
	t.Helper()
	text, from, _ := impl.Preprocess(files, "top")
	for i, line := range strings.SplitAfter(text, "\n")[:len(from)] {
		raw := strings.Split(files[from[i].File].Text, "\n")[from[i].Line-1]
		if !strings.Contains(raw, quote) && raw+"\n" != line {
			t.Errorf("line %d, %q, is told to come from %q", i, line, raw)
		}
		for _, word := range []string{"define", "undef", "ifdef", "ifndef", "else", "endif", "include"} {
			if strings.HasPrefix(raw, quote+word) {
				t.Errorf("line %d is told to come from %q", i, raw)
			}
		}
	}
}

func TestPromise3TokensStandWhereTheySay(t *testing.T) {
	c := &choices{seed: 5}
	parts := append(allMarks(), "a", " b_1", "Z", "7", " 42", " 4'b1x", " 8'shff", " ", "\n", "  ")
	for range 5000 {
		text := ""
		for range c.below(20) {
			text += c.oneOf(parts...)
		}
		list, code, at := impl.Tokens(text)
		if code != impl.OK || at != 0 {
			t.Fatalf("%q: code %d at %d", text, code, at)
		}
		end := 0
		for _, token := range list {
			if token.At < end || token.Text == "" || text[token.At:token.At+len(token.Text)] != token.Text || strings.Trim(text[end:token.At], " \n") != "" {
				t.Fatalf("%q: %v", text, token)
			}
			end = token.At + len(token.Text)
		}
		if strings.Trim(text[end:], " \n") != "" {
			t.Fatalf("%q: nothing behind %d", text, end)
		}
	}
}

// Whatever is handed in, nothing panics, and a fault leaves nothing else.
func TestPromise1OfAnyTexts(t *testing.T) {
	c := &choices{seed: 9}
	parts := []string{"@", "@define ", "@undef ", "@ifdef ", "@ifndef ", "@else", "@endif", "@include ", "top", "lib", "A", "B", " ", "\t", "\n", "\n", "\n", "//", "9", "'", "4'b", "8'hx", "+", "", "x", "s", "\x01", "\xff", "\u00e9"}
	seen := map[int]int{}
	for range 60000 {
		texts := [2]string{}
		for i := range texts {
			for range c.below(9) {
				texts[i] += quoted(parts[c.below(len(parts)-c.below(4))])
			}
		}
		text, from, code := impl.Preprocess([]impl.File{{Name: "top", Text: texts[0]}, {Name: "lib", Text: texts[1]}}, "top")
		if code != impl.OK && (text != "" || len(from) > 0) || code == impl.OK && len(from) != strings.Count(text, "\n") {
			t.Fatalf("%q: %q %v %d", texts, text, from, code)
		}
		seen[code]++
		list, code, at := impl.Tokens(texts[0])
		if code != impl.OK && len(list) > 0 || at < 0 || at > len(texts[0]) {
			t.Fatalf("%q: %v %d %d", texts[0], list, code, at)
		}
		bits, signed, code := impl.NumberBits(texts[0])
		if (code == impl.OK) != impl.BitsOK(bits) || code != impl.OK && signed {
			t.Fatalf("%q: %q %v %d", texts[0], bits, signed, code)
		}
	}
	for _, code := range []int{impl.OK, impl.ErrForm, impl.ErrName, impl.ErrDeep, impl.ErrMissing} {
		if seen[code] == 0 {
			t.Errorf("no text gives %d: %s", code, fmt.Sprint(seen))
		}
	}
}
