package tests

import (
	"slices"
	"strings"

	"loop.example/g00031/impl"
)

// theWords are those that the document tells.
func theWords() []string {
	return strings.Fields("module end in out signed unsigned wire reg mem const enum assign comb on start check func for when else use if case default wait stop")
}

// theGroups are the binary operators from the loosest group on.
func theGroups() [][]string {
	var groups [][]string
	for _, group := range strings.Split("|| ; && ; | ; ^ ; & ; == != === ; < <= > >= ; << >> >>> ; + - ; * / %", ";") {
		groups = append(groups, strings.Fields(group))
	}
	return groups
}

func allOperators() []string { return slices.Concat(theGroups()...) }

func groupTold(op string) int {
	return slices.IndexFunc(theGroups(), func(group []string) bool { return slices.Contains(group, op) })
}

func theUnaries() []string { return strings.Fields("~ - ! & | ^") }

// theGrammar has the document's forms, a line for each way; what stands in
// quotes is a token. Which way an expr groups is not told here, as it has no
// say in which tokens can stand.
const theGrammar = `
design ->
design -> design module
module -> "module" NAME params "(" ports ")" items "end"
params ->
params -> "#" "(" settings ")"
settings -> setting
settings -> settings "," setting
setting -> NAME "=" expr
ports ->
ports -> portlist
portlist -> port
portlist -> portlist "," port
port -> "in" type NAME
port -> "out" type NAME
type ->
type -> "signed"
type -> "[" expr "]"
type -> "signed" "[" expr "]"
items ->
items -> items item
item -> "wire" type NAME ";"
item -> "reg" type NAME ";"
item -> "reg" type NAME "=" expr ";"
item -> "mem" type NAME "[" expr "]" ";"
item -> "const" NAME "=" expr ";"
item -> "enum" names ";"
names -> NAME
names -> names "," NAME
item -> "assign" target "=" expr ";"
item -> "comb" block
item -> "on" NAME block
item -> "start" block
item -> "check" NAME "=" expr ";"
item -> "func" type NAME "(" fports ")" "=" expr ";"
fports ->
fports -> fportlist
fportlist -> fport
fportlist -> fportlist "," fport
fport -> type NAME
item -> "for" NAME "=" expr ".." expr group
item -> "when" expr group
item -> "when" expr group "else" group
item -> "use" NAME NAME params "(" conns ")" ";"
group -> "{" items "}"
conns ->
conns -> connlist
connlist -> conn
connlist -> connlist "," conn
conn -> "." NAME "(" expr ")"
block -> "{" statements "}"
statements ->
statements -> statements statement
statement -> target "=" expr ";"
statement -> target "<=" expr ";"
statement -> if
statement -> "case" expr "{" arms "}"
statement -> "case" expr "{" arms "default" ":" block "}"
arms ->
arms -> arms arm
arm -> exprs ":" block
exprs -> expr
exprs -> exprs "," expr
statement -> "for" NAME "=" expr ".." expr block
statement -> "wait" expr ";"
statement -> "stop" ";"
if -> "if" expr block
if -> "if" expr block "else" block
if -> "if" expr block "else" if
target -> NAME
target -> NAME "[" expr "]"
target -> NAME "[" expr ":" expr "]"
expr -> expr "?" expr ":" expr
expr -> expr BINARY expr
expr -> UNARY expr
expr -> NUMBER
expr -> target
expr -> NAME "(" ")"
expr -> NAME "(" exprs ")"
expr -> "signed" "(" expr ")"
expr -> "unsigned" "(" expr ")"
expr -> "{" exprs "}"
expr -> "{" expr "{" expr "}" "}"
expr -> "(" expr ")"
`

type way struct {
	left  string
	right []string
}

type grammar struct {
	ways  map[string][]way
	empty map[string]bool
}

func grammarOf(text string) grammar {
	g := grammar{ways: map[string][]way{}, empty: map[string]bool{}}
	for _, line := range strings.Split(strings.TrimSpace(text), "\n") {
		fields := strings.Fields(line)
		w := way{left: fields[0], right: fields[2:]}
		g.ways[w.left] = append(g.ways[w.left], w)
		if len(w.right) == 0 {
			g.empty[w.left] = true
		}
	}
	return g
}

// reading is a way of the grammar up to a part of it, begun at some token.
type reading struct {
	left  string
	right string // the parts that are still to come, as one text
	from  int
}

func (r reading) next() string {
	part, _, _ := strings.Cut(r.right, " ")
	return part
}

func (r reading) behind() reading {
	_, rest, _ := strings.Cut(r.right, " ")
	return reading{r.left, rest, r.from}
}

// readings are all that can be going on at one token.
type readings struct {
	list []reading
	seen map[reading]bool
}

func (s *readings) put(r reading) {
	if !s.seen[r] {
		s.seen[r] = true
		s.list = append(s.list, r)
	}
}

// closed adds what can begin at this token and what ends ahead of it. Of all
// that can be empty there is no chain here: each is empty by a way of its own.
func (g grammar) closed(sets []*readings, at int) {
	now := sets[at]
	for i := 0; i < len(now.list); i++ {
		r := now.list[i]
		part := r.next()
		if part == "" {
			for _, o := range slices.Clone(sets[r.from].list) {
				if o.next() == r.left {
					now.put(o.behind())
				}
			}
			continue
		}
		for _, w := range g.ways[part] {
			now.put(reading{w.left, strings.Join(w.right, " "), at})
		}
		if g.empty[part] {
			now.put(r.behind())
		}
	}
}

// partsOf are the grammar's names for what a token can be.
func partsOf(token impl.Token) []string {
	parts := []string{`"` + token.Text + `"`}
	switch {
	case token.Kind == impl.TokNumber:
		return []string{"NUMBER"}
	case token.Kind == impl.TokName && !slices.Contains(theWords(), token.Text):
		return []string{"NAME"}
	}
	if slices.Contains(allOperators(), token.Text) {
		parts = append(parts, "BINARY")
	}
	if slices.Contains(theUnaries(), token.Text) {
		parts = append(parts, "UNARY")
	}
	return parts
}

// faultTold is the code and the place that the document asks for of a text, by
// its grammar alone; limits of nodes are not looked at.
func (g grammar) faultTold(text string) (int, int) {
	tokens, code, at := impl.Tokens(text)
	if code != impl.OK {
		return code, at
	}
	first := &readings{seen: map[reading]bool{}}
	first.put(reading{"whole", "design", 0})
	sets := []*readings{first}
	for i, token := range tokens {
		g.closed(sets, i)
		next := &readings{seen: map[reading]bool{}}
		for _, r := range sets[i].list {
			if slices.Contains(partsOf(token), r.next()) {
				next.put(r.behind())
			}
		}
		if len(next.list) == 0 {
			return impl.ErrSyntax, token.At
		}
		if token.Kind == impl.TokNumber {
			if _, _, code := impl.NumberBits(token.Text); code != impl.OK {
				return code, token.At
			}
		}
		sets = append(sets, next)
	}
	g.closed(sets, len(tokens))
	if sets[len(tokens)].seen[reading{"whole", "", 0}] {
		return impl.OK, 0
	}
	return impl.ErrSyntax, len(text)
}

// formTold is what a node is written as: $ is its text, 2 its kid of that
// number, *2 the kids from that one on, ,2 these with commas between them, and
// ;0 all but the last one with commas; all else is a token.
func formTold(n impl.Node) string {
	more := func(kids int, form, other string) string {
		if len(n.Kids) > kids {
			return form
		}
		return other
	}
	switch n.Kind {
	case impl.NDesign:
		return "*0"
	case impl.NModule:
		return "module $ 0 1 *2 end"
	case impl.NParams:
		return more(0, "# ( ,0 )", "")
	case impl.NParam:
		return "$ = 0"
	case impl.NPorts, impl.NConns:
		return "( ,0 )"
	case impl.NIn:
		return "in 0 $"
	case impl.NOut:
		return "out 0 $"
	case impl.NType:
		return "$ " + more(0, "[ 0 ]", "")
	case impl.NWire:
		return "wire 0 $ ;"
	case impl.NReg:
		return "reg 0 $ " + more(1, "= 1", "") + " ;"
	case impl.NMem:
		return "mem 0 $ [ 1 ] ;"
	case impl.NConst:
		return "const $ = 0 ;"
	case impl.NEnum:
		return "enum ,0 ;"
	case impl.NAssign:
		return "assign 0 = 1 ;"
	case impl.NComb:
		return "comb 0"
	case impl.NOn:
		return "on $ 0"
	case impl.NStart:
		return "start 0"
	case impl.NCheck:
		return "check $ = 0 ;"
	case impl.NFunc:
		return "func 0 $ 1 = 2 ;"
	case impl.NFor, impl.NLoop:
		return "for $ = 0 .. 1 2"
	case impl.NWhen:
		return "when 0 1 " + more(2, "else 2", "")
	case impl.NUse:
		return "use $ 0 1 2 ;"
	case impl.NItems, impl.NBlock:
		return "{ *0 }"
	case impl.NConn:
		return ". $ ( 0 )"
	}
	return lowFormTold(n.Kind, more)
}

func lowFormTold(kind int, more func(kids int, form, other string) string) string {
	switch kind {
	case impl.NSet:
		return "0 = 1 ;"
	case impl.NLater:
		return "0 <= 1 ;"
	case impl.NIf:
		return "if 0 1 " + more(2, "else 2", "")
	case impl.NCase:
		return "case 0 { *1 }"
	case impl.NArm:
		return ";0 : last"
	case impl.NDefault:
		return "default : 0"
	case impl.NWait:
		return "wait 0 ;"
	case impl.NStop:
		return "stop ;"
	case impl.NNumber, impl.NName:
		return "$"
	case impl.NIndex:
		return "$ [ 0 ]"
	case impl.NPart:
		return "$ [ 0 : 1 ]"
	case impl.NCall:
		return "$ ( ,0 )"
	case impl.NJoin:
		return "{ ,0 }"
	case impl.NRepeat:
		return "{ 0 { 1 } }"
	case impl.NSigned:
		return "signed ( 0 )"
	case impl.NUnsigned:
		return "unsigned ( 0 )"
	case impl.NUnary:
		return "$ 0"
	case impl.NBinary:
		return "0 $ 1"
	case impl.NChoose:
		return "0 ? 1 : 2"
	}
	return "@"
}

// writer writes nodes as tokens, each of which is one text; brackets tells how
// many there are around an expr that is the kid of that number of another node.
type writer struct {
	brackets func(n, around impl.Node, place int) int
	tokens   []string
}

func isExprKind(kind int) bool { return kind >= impl.NNumber && kind <= impl.NChoose }

func isOpKind(kind int) bool { return kind >= impl.NUnary && kind <= impl.NChoose }

// asPrinted puts brackets where the document has them printed.
func asPrinted(n, _ impl.Node, _ int) int {
	if isOpKind(n.Kind) {
		return 1
	}
	return 0
}

// needed is how many brackets an expr must have for the sake of what is around
// it.
func needed(n, around impl.Node, place int) int {
	group := func(n impl.Node) int {
		if n.Kind == impl.NChoose {
			return -1
		}
		return groupTold(n.Text)
	}
	if !isOpKind(n.Kind) || n.Kind == impl.NUnary {
		return 0
	}
	tight := false
	switch around.Kind {
	case impl.NUnary:
		tight = true
	case impl.NBinary:
		tight = group(n) < group(around) || place == 1 && group(n) == group(around)
	case impl.NChoose:
		tight = place == 0 && n.Kind == impl.NChoose
	}
	if tight {
		return 1
	}
	return 0
}

// nameOnly tells a kid that is a NAME or a target, and no expr.
func nameOnly(around impl.Node, place int) bool {
	switch around.Kind {
	case impl.NEnum, impl.NUse:
		return true
	case impl.NAssign, impl.NSet, impl.NLater:
		return place == 0
	}
	return false
}

func (w *writer) kid(around impl.Node, place int) {
	if place >= len(around.Kids) {
		w.tokens = append(w.tokens, "@")
		return
	}
	n := around.Kids[place]
	brackets := 0
	if isExprKind(n.Kind) && !nameOnly(around, place) {
		brackets = w.brackets(n, around, place)
	}
	for range brackets {
		w.tokens = append(w.tokens, "(")
	}
	w.node(n)
	for range brackets {
		w.tokens = append(w.tokens, ")")
	}
}

func (w *writer) kids(n impl.Node, from, to int, comma bool) {
	for place := from; place < to; place++ {
		if comma && place > from {
			w.tokens = append(w.tokens, ",")
		}
		w.kid(n, place)
	}
}

func (w *writer) node(n impl.Node) {
	for _, part := range strings.Fields(formTold(n)) {
		place := int(part[len(part)-1] - '0')
		switch {
		case part == "$" && n.Text == "" && n.Kind == impl.NType:
		case part == "$":
			w.tokens = append(w.tokens, n.Text)
		case part == "last":
			w.kid(n, max(len(n.Kids)-1, 0))
		case place < 0 || place > 9:
			w.tokens = append(w.tokens, part)
		case part[0] == '*':
			w.kids(n, place, len(n.Kids), false)
		case part[0] == ',':
			w.kids(n, place, len(n.Kids), true)
		case part[0] == ';':
			w.kids(n, place, len(n.Kids)-1, true)
		case n.Kind == impl.NFunc && place == 1 && len(n.Kids) > 1:
			w.funcPorts(n.Kids[1])
		default:
			w.kid(n, place)
		}
	}
}

// funcPorts is written without the word in, which only a port that is one can.
func (w *writer) funcPorts(n impl.Node) {
	from := len(w.tokens)
	w.node(n)
	w.tokens = slices.Concat(w.tokens[:from], slices.DeleteFunc(w.tokens[from:], func(token string) bool { return token == "in" }))
}

func written(n impl.Node, brackets func(n, around impl.Node, place int) int) []string {
	w := &writer{brackets: brackets}
	w.node(n)
	return w.tokens
}

// printTold is the text that the document asks PrintDesign for.
func printTold(n impl.Node) string {
	text := strings.Join(written(n, asPrinted), " ")
	if text == "" {
		return ""
	}
	return strings.ReplaceAll(text, "; ", ";\n") + "\n"
}

func sameNode(a, b impl.Node) bool {
	return a.Kind == b.Kind && a.Text == b.Text && slices.EqualFunc(a.Kids, b.Kids, sameNode)
}

// isDesign tells by the document's own words whether a small node is one: there
// is a text of which it is the answer.
func isDesign(n impl.Node) bool {
	parsed, code, _ := impl.ParseDesign(printTold(n))
	return code == impl.OK && sameNode(parsed, n)
}

func cloned(n impl.Node) impl.Node {
	out := impl.Node{Kind: n.Kind, Text: n.Text}
	for _, kid := range n.Kids {
		out.Kids = append(out.Kids, cloned(kid))
	}
	return out
}

// maker makes designs that look like chance, with every form in them.
type maker struct{ choices }

func node(kind int, text string, kids ...impl.Node) impl.Node {
	return impl.Node{Kind: kind, Text: text, Kids: kids}
}

func (m *maker) name() string {
	return m.oneOf("a", "b", "c1", "_", "In", "ends", "module_", strings.Repeat("n", impl.MaxName))
}

func (m *maker) some(least, most int, one func() impl.Node) []impl.Node {
	var list []impl.Node
	for range least + m.below(most-least+1) {
		list = append(list, one())
	}
	return list
}

func (m *maker) leaf() impl.Node {
	if m.below(3) == 0 {
		return node(impl.NNumber, m.oneOf("0", "7", "2147483647", "4'b1x", "8'shff", "64'hz", "3'd7"))
	}
	return node(impl.NName, m.name())
}

// exprOf gives a function, as lists of kids are made by one.
func (m *maker) exprOf(depth int) func() impl.Node {
	return func() impl.Node { return m.expr(depth) }
}

func (m *maker) expr(depth int) impl.Node {
	if depth == 0 {
		return m.leaf()
	}
	one := m.exprOf(depth - 1)
	switch m.below(14) {
	case 0:
		return node(impl.NIndex, m.name(), one())
	case 1:
		return node(impl.NPart, m.name(), one(), one())
	case 2:
		return node(impl.NCall, m.name(), m.some(0, 3, one)...)
	case 3:
		return node(impl.NJoin, "", m.some(1, 3, one)...)
	case 4:
		return node(impl.NRepeat, "", one(), one())
	case 5:
		return node(impl.NSigned, "", one())
	case 6:
		return node(impl.NUnsigned, "", one())
	case 7, 8:
		return node(impl.NUnary, m.oneOf(theUnaries()...), one())
	case 9:
		return node(impl.NChoose, "", one(), one(), one())
	case 10:
		return m.leaf()
	}
	return node(impl.NBinary, m.oneOf(allOperators()...), one(), one())
}

func (m *maker) target() impl.Node {
	switch m.below(3) {
	case 0:
		return node(impl.NIndex, m.name(), m.expr(1))
	case 1:
		return node(impl.NPart, m.name(), m.expr(1), m.expr(1))
	}
	return node(impl.NName, m.name())
}

func (m *maker) typeNode() impl.Node {
	return node(impl.NType, m.oneOf("", "signed"), m.some(0, 1, m.exprOf(1))...)
}

func (m *maker) block(depth int) impl.Node {
	if depth == 0 {
		return node(impl.NBlock, "")
	}
	return node(impl.NBlock, "", m.some(0, 3, func() impl.Node { return m.statement(depth - 1) })...)
}

func (m *maker) branch(depth int) impl.Node {
	n := node(impl.NIf, "", m.expr(2), m.block(depth))
	switch m.below(3) {
	case 0:
		n.Kids = append(n.Kids, m.block(depth))
	case 1:
		n.Kids = append(n.Kids, m.branch(depth))
	}
	return n
}

func (m *maker) statement(depth int) impl.Node {
	switch m.below(8) {
	case 0:
		return m.branch(depth)
	case 1:
		arm := func() impl.Node {
			return node(impl.NArm, "", append(m.some(1, 3, m.exprOf(1)), m.block(depth))...)
		}
		n := node(impl.NCase, "", append([]impl.Node{m.expr(2)}, m.some(0, 3, arm)...)...)
		if m.below(2) == 0 {
			n.Kids = append(n.Kids, node(impl.NDefault, "", m.block(depth)))
		}
		return n
	case 2:
		return node(impl.NLoop, m.name(), m.expr(1), m.expr(1), m.block(depth))
	case 3:
		return node(impl.NWait, "", m.expr(2))
	case 4:
		return node(impl.NStop, "")
	case 5:
		return node(impl.NLater, "", m.target(), m.expr(3))
	}
	return node(impl.NSet, "", m.target(), m.expr(3))
}

func (m *maker) params() impl.Node {
	return node(impl.NParams, "", m.some(0, 2, func() impl.Node { return node(impl.NParam, m.name(), m.expr(1)) })...)
}

func (m *maker) ports(kinds ...int) impl.Node {
	return node(impl.NPorts, "", m.some(0, 3, func() impl.Node {
		return node(kinds[m.below(len(kinds))], m.name(), m.typeNode())
	})...)
}

func (m *maker) items(depth int) impl.Node {
	if depth == 0 {
		return node(impl.NItems, "")
	}
	return node(impl.NItems, "", m.some(0, 3, func() impl.Node { return m.item(depth - 1) })...)
}

func (m *maker) item(depth int) impl.Node {
	switch m.below(14) {
	case 0:
		return node(impl.NWire, m.name(), m.typeNode())
	case 1:
		return node(impl.NReg, m.name(), append([]impl.Node{m.typeNode()}, m.some(0, 1, m.exprOf(2))...)...)
	case 2:
		return node(impl.NMem, m.name(), m.typeNode(), m.expr(1))
	case 3:
		return node(impl.NConst, m.name(), m.expr(2))
	case 4:
		return node(impl.NEnum, "", m.some(1, 4, func() impl.Node { return node(impl.NName, m.name()) })...)
	case 5:
		return node(impl.NAssign, "", m.target(), m.expr(3))
	case 6:
		return node(impl.NComb, "", m.block(3))
	case 7:
		return node(impl.NOn, m.name(), m.block(3))
	case 8:
		return node(impl.NStart, "", m.block(3))
	case 9:
		return node(impl.NCheck, m.name(), m.expr(3))
	case 10:
		return node(impl.NFunc, m.name(), m.typeNode(), m.ports(impl.NIn), m.expr(3))
	case 11:
		return node(impl.NFor, m.name(), m.expr(1), m.expr(1), m.items(depth))
	case 12:
		return node(impl.NWhen, "", append([]impl.Node{m.expr(2)}, m.some(1, 2, func() impl.Node { return m.items(depth) })...)...)
	}
	conns := m.some(0, 3, func() impl.Node { return node(impl.NConn, m.name(), m.expr(2)) })
	return node(impl.NUse, m.name(), node(impl.NName, m.name()), m.params(), node(impl.NConns, "", conns...))
}

func (m *maker) module() impl.Node {
	kids := []impl.Node{m.params(), m.ports(impl.NIn, impl.NOut)}
	return node(impl.NModule, m.name(), append(kids, m.some(0, 3, func() impl.Node { return m.item(2) })...)...)
}

func (m *maker) design() impl.Node {
	return node(impl.NDesign, "", m.some(0, 2, m.module)...)
}
