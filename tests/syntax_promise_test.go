package tests

import (
	"slices"
	"strings"
	"testing"

	"loop.example/g00031/impl"
)

func makerOf(seed uint64) *maker { return &maker{choices{seed: seed}} }

// wantsDesign asks that a text is parsed to a design.
func wantsDesign(t *testing.T, text string, want impl.Node) {
	t.Helper()
	got, code, at := impl.ParseDesign(text)
	if code != impl.OK || at != 0 || !sameNode(got, want) {
		t.Fatalf("%.2000q: code %d at %d, %s, not %s", text, code, at, shown(got), shown(want))
	}
}

// tallyKinds counts the kinds, and the forms of them that have kids and lack them.
func tallyKinds(n impl.Node, kinds map[[2]int]int) {
	kinds[[2]int{n.Kind, min(len(n.Kids), 3)}]++
	for _, kid := range n.Kids {
		tallyKinds(kid, kinds)
	}
}

func TestPromise4WhatIsPrintedIsParsedToTheSame(t *testing.T) {
	m := makerOf(1)
	kinds := map[[2]int]int{}
	for range 4000 {
		n := m.design()
		tallyKinds(n, kinds)
		if !impl.NodeOK(n) {
			t.Fatalf("no design: %s", shown(n))
		}
		text, code := impl.PrintDesign(n)
		if code != impl.OK || text != printTold(n) {
			t.Fatalf("%s: code %d, %q, not %q", shown(n), code, text, printTold(n))
		}
		wantsDesign(t, text, n)
	}
	for kind := impl.NDesign; kind <= impl.NChoose; kind++ {
		if kinds[[2]int{kind, 0}]+kinds[[2]int{kind, 1}]+kinds[[2]int{kind, 2}]+kinds[[2]int{kind, 3}] == 0 {
			t.Errorf("no design has a node of kind %d", kind)
		}
	}
	for _, form := range [][2]int{{impl.NDesign, 0}, {impl.NModule, 2}, {impl.NParams, 0}, {impl.NPorts, 0}, {impl.NType, 0}, {impl.NType, 1}, {impl.NReg, 1}, {impl.NReg, 2}, {impl.NWhen, 2}, {impl.NWhen, 3}, {impl.NItems, 0}, {impl.NConns, 0}, {impl.NBlock, 0}, {impl.NIf, 2}, {impl.NIf, 3}, {impl.NCase, 1}, {impl.NArm, 2}, {impl.NArm, 3}, {impl.NCall, 0}, {impl.NCall, 2}, {impl.NJoin, 1}, {impl.NEnum, 1}} {
		if kinds[form] == 0 {
			t.Errorf("no design has a node of kind %d with %d kids", form[0], form[1])
		}
	}
}

// loose puts in the brackets that are needed, and some that are not.
func (m *maker) loose(n, around impl.Node, place int) int {
	return needed(n, around, place) + max(m.below(5)-2, 0)
}

// apart puts blanks and bytes 10 between tokens, none where none is needed.
func (m *maker) apart(tokens []string) string {
	text := m.oneOf("", " ", "\n")
	for i, token := range tokens {
		text += token
		if i+1 < len(tokens) && !standsAlone(token, tokens[i+1]) {
			text += m.oneOf(" ", "\n")
		}
		text += m.oneOf("", "", "", " ", "\n", " \n  ")
	}
	return text
}

// standsAlone tells whether two tokens are still two where nothing is between
// them.
func standsAlone(a, b string) bool {
	list, code, _ := impl.Tokens(a + b)
	return code == impl.OK && len(list) == 2 && list[0].Text == a
}

func TestPromise4BracketsAndBlanksWithoutNeedChangeNothing(t *testing.T) {
	m := makerOf(2)
	more := 0
	for range 2500 {
		n := m.design()
		least := written(n, needed)
		wantsDesign(t, strings.Join(least, " "), n)
		wantsDesign(t, m.apart(least), n)
		loose := written(n, m.loose)
		more += len(loose) - len(least)
		wantsDesign(t, strings.Join(loose, "\n"), n)
		wantsDesign(t, m.apart(loose), n)
	}
	if more < 10000 {
		t.Errorf("only %d brackets without need", more)
	}
}

// A bracket that is needed changes what is parsed where it lacks, or else it
// would not be needed: the least text is the least there is.
func TestBracketsThatAreNeeded(t *testing.T) {
	m := makerOf(3)
	seen := 0
	for range 4000 {
		n := node(impl.NDesign, "", node(impl.NModule, "m", node(impl.NParams, ""), node(impl.NPorts, ""), node(impl.NCheck, "c", m.expr(3))))
		bare := written(n, func(impl.Node, impl.Node, int) int { return 0 })
		if slices.Equal(bare, written(n, needed)) {
			continue
		}
		seen++
		got, code, _ := impl.ParseDesign(strings.Join(bare, " "))
		if code == impl.OK && sameNode(got, n) {
			t.Fatalf("%s is the same without brackets", shown(n))
		}
	}
	if seen < 500 {
		t.Errorf("only %d exprs need brackets", seen)
	}
}

// spoilt changes tokens here and there.
func (m *maker) spoilt(tokens []string) []string {
	all := slices.Concat(theWords(), allMarks(), slices.Repeat([]string{"a", "b", "1", "4'b1", "4'b2", "2'd9", "0'b1"}, 5))
	tokens = slices.Clone(tokens)
	for range 1 + m.below(2) {
		if len(tokens) == 0 {
			tokens = append(tokens, m.oneOf(all...))
		}
		at := m.below(len(tokens))
		switch m.below(6) {
		case 0:
			tokens = slices.Delete(tokens, at, at+1)
		case 1:
			tokens = slices.Insert(tokens, at, tokens[at])
		case 2:
			tokens = slices.Insert(tokens, at, m.oneOf(all...))
		case 3:
			tokens[at], tokens[len(tokens)-1-at] = tokens[len(tokens)-1-at], tokens[at]
		case 4:
			tokens = tokens[:at]
		default:
			tokens[at] = m.oneOf(all...)
		}
	}
	return tokens
}

// holdFault holds a text against the grammar as the document has it.
func holdFault(t *testing.T, g grammar, text string) int {
	t.Helper()
	code, at := g.faultTold(text)
	n, gotCode, gotAt := impl.ParseDesign(text)
	if gotCode != code || gotAt != at {
		t.Errorf("%.1000q: code %d at %d, not %d at %d", text, gotCode, gotAt, code, at)
	}
	if gotCode != impl.OK && !sameNode(n, impl.Node{}) {
		t.Errorf("%.1000q: code %d, and yet %s", text, gotCode, shown(n))
	}
	if gotCode == impl.OK && (!impl.NodeOK(n) || !isDesign(n)) {
		t.Errorf("%.1000q: %s is no design", text, shown(n))
	}
	return code
}

func TestFaultsAreToldWhereTheGrammarEnds(t *testing.T) {
	g := grammarOf(theGrammar)
	m := makerOf(4)
	codes := map[int]int{}
	for range 2500 {
		module := node(impl.NModule, m.name(), m.params(), m.ports(impl.NIn, impl.NOut), m.item(1))
		tokens := written(node(impl.NDesign, "", module), m.loose)
		if len(tokens) > 150 {
			continue
		}
		text := strings.Join(m.spoilt(tokens), " ") + m.oneOf("", " ", "\n\n")
		codes[holdFault(t, g, text)]++
	}
	for _, code := range []int{impl.OK, impl.ErrSyntax, impl.ErrForm, impl.ErrRange, impl.ErrWidth} {
		if codes[code] < 5 {
			t.Errorf("code %d comes %d times", code, codes[code])
		}
	}
}

func TestFaultsOfShortRunsOfTokens(t *testing.T) {
	g := grammarOf(theGrammar)
	letters := []string{"a", "1", "+", "&", "<=", "?", ":", "(", ")", "[", "]", "{", "}", ",", "=", ";", "signed", "2'd9"}
	runs := []string{""}
	for range 3 {
		for _, run := range slices.Clone(runs) {
			for _, letter := range letters {
				runs = append(runs, run+" "+letter)
			}
		}
	}
	runs = slices.Compact(slices.Sorted(slices.Values(runs)))
	for i, run := range runs {
		if i%2 == 0 {
			holdFault(t, g, "module m ( ) check c ="+run+" ; end")
		} else {
			holdFault(t, g, "module m ( ) comb {"+run+" ; } end")
		}
	}
}

// Every word stands, in turn, where a NAME stands; what the grammar makes of it
// tells the place.
func TestWordsAreNoNames(t *testing.T) {
	g := grammarOf(theGrammar)
	text := "module @ # ( @ = @ ) ( in @ , out signed @ , in [ 2 ] @ ) wire @ ; reg signed @ = 1 ; mem [ 4 ] @ [ 4 ] ; const @ = 1 ; enum @ , @ ; assign @ = 1 ; comb { @ = 1 ; @ [ 1 ] <= 1 ; for @ = 1 .. 2 { } if @ { } wait f ( @ ) ; } on @ { } check @ = @ [ 1 : @ ] ; func @ ( @ , signed @ ) = @ ; for @ = 1 .. 2 { } use @ @ # ( @ = 1 ) ( . @ ( 1 ) ) ; end"
	places := strings.Count(text, "@")
	named := strings.Split(strings.ReplaceAll(text, "@", "\x00a\x00"), "\x00")
	if n, code, at := impl.ParseDesign(strings.ReplaceAll(text, "@", "a")); code != impl.OK || !impl.NodeOK(n) {
		t.Fatalf("%d at %d", code, at)
	}
	tells := 0
	for place := range places {
		for _, word := range theWords() {
			parts := slices.Clone(named)
			parts[2*place+1] = word
			spoilt := strings.Join(parts, "")
			code := holdFault(t, g, spoilt)
			if code != impl.ErrSyntax {
				t.Errorf("%q: code %d", spoilt, code)
			}
			if _, _, at := impl.ParseDesign(spoilt); at == len(strings.Join(parts[:2*place+1], "")) {
				tells++
			}
		}
	}
	if tells < places*len(theWords())*9/10 {
		t.Errorf("%d of %d are told at the word", tells, places*len(theWords()))
	}
}

// someNode is one of the nodes of a tree.
func (m *maker) someNode(n *impl.Node) *impl.Node {
	for len(n.Kids) > 0 && m.below(6) > 0 {
		n = &n.Kids[m.below(len(n.Kids))]
	}
	return n
}

// bent changes one node of a design.
func (m *maker) bent(n impl.Node) impl.Node {
	out := cloned(n)
	at := m.someNode(&out)
	switch m.below(6) {
	case 0:
		at.Kind = m.below(50) - 1
	case 1:
		at.Text = m.oneOf("", "a", "module", "stop", "9", "a b", " a", "signed", "unsigned", "+", "~", "<=", "=", "(", "4'b1", "4'b2", "2'd9", "===", "x;", "\x00", strings.Repeat("n", impl.MaxName+1))
	case 2:
		if len(at.Kids) > 0 {
			place := m.below(len(at.Kids))
			at.Kids = slices.Delete(at.Kids, place, place+1)
		}
	case 3:
		if len(at.Kids) > 0 {
			at.Kids = append(at.Kids, cloned(at.Kids[m.below(len(at.Kids))]))
		}
	case 4:
		if len(at.Kids) > 0 {
			i, j := m.below(len(at.Kids)), m.below(len(at.Kids))
			at.Kids[i], at.Kids[j] = at.Kids[j], at.Kids[i]
		}
	default:
		other := m.design()
		*at = cloned(*m.someNode(&other))
	}
	return out
}

func TestNodesAreDesignsOnlyIfSomeTextGivesThem(t *testing.T) {
	m := makerOf(6)
	good, bad := 0, 0
	for range 30000 {
		n := m.bent(node(impl.NDesign, "", m.module()))
		want := isDesign(n)
		if impl.NodeOK(n) != want {
			t.Fatalf("NodeOK is %v: %s", !want, shown(n))
		}
		text, code := impl.PrintDesign(n)
		if want {
			good++
			if code != impl.OK || text != printTold(n) {
				t.Fatalf("%s: %q, code %d", shown(n), text, code)
			}
			continue
		}
		bad++
		if code != impl.ErrBad || text != "" {
			t.Fatalf("%s: %q, code %d", shown(n), text, code)
		}
	}
	if good < 2000 || bad < 10000 {
		t.Errorf("%d designs, %d others", good, bad)
	}
}

// Whatever is handed in, nothing panics, and a fault leaves nothing else.
func TestPromise1OfAnyDesignTexts(t *testing.T) {
	m := makerOf(7)
	all := slices.Concat(theWords(), allMarks(), []string{"a", "b", "1", "4'b1", "4'b2", "@", "'", "\x00", "\xff", "\t", "\u00e9"})
	for range 30000 {
		text := m.oneOf("", "module m ( ) ", "module m ( ) comb { ", "module m ( ) check c = ")
		for range m.below(12) {
			text += m.oneOf(all...) + m.oneOf("", " ", " ", "\n")
		}
		n, code, at := impl.ParseDesign(text)
		if code == impl.OK && (at != 0 || !impl.NodeOK(n)) || code != impl.OK && !sameNode(n, impl.Node{}) || at < 0 || at > len(text) {
			t.Fatalf("%q: %s, code %d at %d", text, shown(n), code, at)
		}
	}
}

// writeInto changes all that a node has.
func writeInto(n *impl.Node) {
	for i := range n.Kids {
		writeInto(&n.Kids[i])
	}
	kids := n.Kids[:cap(n.Kids)]
	for i := range kids {
		kids[i] = impl.Node{Kind: -1, Text: "@"}
	}
}

func TestPromise1AnswersAreNewMemory(t *testing.T) {
	m := makerOf(8)
	for range 300 {
		n := m.design()
		text := printTold(n)
		first, _, _ := impl.ParseDesign(text)
		// one list at a time: what is written into it must not show elsewhere
		for i := range first.Kids {
			rest := slices.Delete(cloned(first).Kids, i, i+1)
			writeInto(&first.Kids[i])
			if !slices.EqualFunc(slices.Delete(cloned(first).Kids, i, i+1), rest, sameNode) {
				t.Fatalf("%q: modules share memory", text)
			}
		}
		wantsDesign(t, text, n)
	}
	holdListsApart(t, m)
}

// holdListsApart writes behind the end of one list of an answer after the other.
func holdListsApart(t *testing.T, m *maker) {
	for range 100 {
		n := m.design()
		parsed, _, _ := impl.ParseDesign(printTold(n))
		var lists [][]impl.Node
		var gather func(n impl.Node)
		gather = func(n impl.Node) {
			lists = append(lists, n.Kids)
			for _, kid := range n.Kids {
				gather(kid)
			}
		}
		gather(parsed)
		for _, list := range lists {
			behind := list[len(list):cap(list)]
			for i := range behind {
				behind[i] = impl.Node{Kind: -1, Text: "@"}
			}
		}
		if !sameNode(parsed, n) {
			t.Fatalf("%s: lists share memory", shown(n))
		}
	}
}

func TestPromise1ArgumentsAreNotWritten(t *testing.T) {
	m := makerOf(9)
	for range 2000 {
		n := m.design()
		if m.below(2) == 0 {
			n = m.bent(n)
		}
		// room behind the end of each list, which must stay as it is
		spare := roomy(n)
		kept := cloned(spare)
		impl.NodeOK(spare)
		impl.PrintDesign(spare)
		if !sameNode(spare, kept) || !roomKept(spare) {
			t.Fatalf("%s was written into", shown(kept))
		}
	}
}

func roomy(n impl.Node) impl.Node {
	out := impl.Node{Kind: n.Kind, Text: n.Text}
	for _, kid := range n.Kids {
		out.Kids = append(out.Kids, roomy(kid))
	}
	all := append(slices.Clip(out.Kids), impl.Node{Kind: -7, Text: "room"})
	out.Kids = all[:len(all)-1]
	return out
}

func roomKept(n impl.Node) bool {
	behind := n.Kids[:len(n.Kids)+1][len(n.Kids)]
	if behind.Kind != -7 || behind.Text != "room" || len(behind.Kids) != 0 {
		return false
	}
	for _, kid := range n.Kids {
		if !roomKept(kid) {
			return false
		}
	}
	return true
}
