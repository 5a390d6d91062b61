package tests

import (
	"fmt"
	"slices"

	"loop.example/g00031/impl"
)

// waysTold goes the ways from literals of a graph down, each anew for what its leaves are.
type waysTold struct {
	a     impl.Aig
	first int
}

func waysOfGraph(a impl.Aig) waysTold { return waysTold{a, 1 + len(a.Ins) + len(a.Latches)} }

func (w waysTold) variables() int { return w.first + len(w.a.Ands) }

// end tells whether every way from a variable ends at a leaf or at false.
func (w waysTold) end(variable int, leaves []int, seen map[int]bool) bool {
	if variable == 0 || slices.Contains(leaves, variable) || seen[variable] {
		return true
	}
	seen[variable] = true
	if variable < w.first {
		return false
	}
	and := w.a.Ands[variable-w.first]
	return w.end(and.A/2, leaves, seen) && w.end(and.B/2, leaves, seen)
}

// value is what a literal is where the leaves are these.
func (w waysTold) value(lit int, leaves map[int]bool, seen map[int]bool) bool {
	if lit%2 == 1 {
		return !w.value(lit-1, leaves, seen)
	}
	if value, ok := leaves[lit/2]; ok {
		return value
	}
	if lit == 0 {
		return false
	}
	if value, ok := seen[lit]; ok {
		return value
	}
	and := w.a.Ands[lit/2-w.first]
	first, second := w.value(and.A, leaves, seen), w.value(and.B, leaves, seen)
	seen[lit] = first && second
	return first && second
}

// table puts the values of all rows together; the ways must end.
func (w waysTold) table(lit int, leaves []int) int {
	table, rows := 0, 1
	for range leaves {
		rows *= 2
	}
	for row := range rows {
		what := map[int]bool{}
		for place, leaf := range leaves {
			what[leaf] = row>>place%2 == 1
		}
		if w.value(lit, what, map[int]bool{}) {
			table += 1 << row
		}
	}
	return table
}

// tableOfTold says what TableOf must answer.
func tableOfTold(a impl.Aig, lit int, leaves []int) (int, int) {
	if !aigTold(a) || len(leaves) > 4 {
		return 0, impl.ErrBad
	}
	w := waysOfGraph(a)
	if lit < 0 || lit/2 >= w.variables() {
		return 0, impl.ErrBad
	}
	for place, leaf := range leaves {
		if leaf < 1 || leaf >= w.variables() || place > 0 && leaf <= leaves[place-1] {
			return 0, impl.ErrBad
		}
	}
	if !w.end(lit/2, leaves, map[int]bool{}) {
		return 0, impl.ErrKind
	}
	return w.table(lit, leaves), impl.OK
}

// level is that of a variable: how many ands there are one behind the other.
func (w waysTold) level(variable int, known map[int]int) int {
	if variable < w.first {
		return 0
	}
	if _, ok := known[variable]; !ok {
		and := w.a.Ands[variable-w.first]
		known[variable] = max(w.level(and.A/2, known), w.level(and.B/2, known)) + 1
	}
	return known[variable]
}

// endLits are the literals of outs, checks and Nexts.
func endLits(a impl.Aig) []int {
	var lits []int
	for _, l := range a.Latches {
		lits = append(lits, l.Next)
	}
	for _, p := range slices.Concat(a.Outs, a.Checks) {
		lits = append(lits, p.Lit)
	}
	return lits
}

// depthTold says what Depth must answer.
func depthTold(a impl.Aig) int {
	if !aigTold(a) {
		return -1
	}
	depth, known := 0, map[int]int{}
	for _, lit := range endLits(a) {
		depth = max(depth, waysOfGraph(a).level(lit/2, known))
	}
	return depth
}

// allOf tells whether a list has all that another has.
func allOf(list, other []int) bool {
	for _, number := range other {
		if !slices.Contains(list, number) {
			return false
		}
	}
	return true
}

// setOf has the numbers in order, each once.
func setOf(list []int) []int {
	set := slices.Clone(list)
	slices.Sort(set)
	return slices.Compact(set)
}

// setsTold are the leaves of an and's cuts but its own, of those of its operands.
func setsTold(first, second [][]int, most int, level func(variable int) int) [][]int {
	var sets [][]int
	for _, one := range first {
		for _, other := range second {
			sets = append(sets, setOf(slices.Concat(one, other)))
		}
	}
	var out [][]int
	for at, set := range sets {
		twice := slices.ContainsFunc(sets[:at], func(other []int) bool { return slices.Equal(set, other) })
		covers := slices.ContainsFunc(sets, func(other []int) bool { return len(other) < len(set) && allOf(set, other) })
		if len(set) <= most && !twice && !covers {
			out = append(out, set)
		}
	}
	key := func(set []int) []int {
		greatest := 0
		for _, leaf := range set {
			greatest = max(greatest, level(leaf))
		}
		return append([]int{greatest, len(set)}, set...)
	}
	slices.SortFunc(out, func(a, b []int) int { return slices.Compare(key(a), key(b)) })
	return out[:min(len(out), 7)]
}

// cutsTold says what Cuts must answer.
func cutsTold(a impl.Aig, most int) ([][]impl.Cut, int) {
	if !aigTold(a) {
		return nil, impl.ErrBad
	}
	if most != 2 && most != 3 && most != 4 {
		return nil, impl.ErrRange
	}
	w := waysOfGraph(a)
	known := map[int]int{}
	level := func(variable int) int { return w.level(variable, known) }
	sets := [][][]int{{{}}}
	for variable := 1; variable < w.first; variable++ {
		sets = append(sets, [][]int{{variable}})
	}
	var all [][]impl.Cut
	for at, and := range a.Ands {
		of := append(setsTold(sets[and.A/2], sets[and.B/2], most, level), []int{w.first + at})
		sets = append(sets, of)
		var cuts []impl.Cut
		for _, leaves := range of {
			cuts = append(cuts, impl.Cut{Leaves: leaves, Table: w.table(2*(w.first+at), leaves)})
		}
		all = append(all, cuts)
	}
	return all, impl.OK
}

// anew makes a graph again, and by and, of what each became.
type anew struct {
	blast
	became []int
}

func anewOf(a impl.Aig) *anew {
	w := waysOfGraph(a)
	m := &anew{blast: blast{first: w.first, places: map[[2]int]int{}}}
	for variable := range w.first {
		m.became = append(m.became, variable*2)
	}
	return m
}

func (m *anew) lit(lit int) int {
	if lit%2 == 1 {
		return litTurned(m.became[lit/2])
	}
	return m.became[lit/2]
}

// graph is the graph with what its ends became, of the ands that are needed.
func (m *anew) graph(a impl.Aig) impl.Aig {
	out := impl.Aig{Ins: a.Ins, Clocks: a.Clocks, Latches: slices.Clone(a.Latches), Outs: slices.Clone(a.Outs), Checks: slices.Clone(a.Checks)}
	for i := range out.Latches {
		out.Latches[i].Next = m.lit(out.Latches[i].Next)
	}
	for i := range out.Outs {
		out.Outs[i].Lit = m.lit(out.Outs[i].Lit)
	}
	for i := range out.Checks {
		out.Checks[i].Lit = m.lit(out.Checks[i].Lit)
	}
	return m.kept(out)
}

// tableBy is the table of what holds in rows of so many leaves.
func tableBy(leaves int, holds func(row int) bool) int {
	table := 0
	for row := range 1 << leaves {
		table += numberIf(holds(row)) << row
	}
	return table
}

// thePairs are the places of two leaves in the chapter's order.
var thePairs = [][2]int{{0, 1}, {0, 2}, {1, 2}, {0, 3}, {1, 3}, {2, 3}}

// byCut is what an and becomes by one of its cuts, in the order in which the chapter looks; false where it does not decide.
func (m *anew) byCut(c impl.Cut) (int, bool) {
	count := len(c.Leaves)
	is := func(holds func(row int) bool) bool { return c.Table == tableBy(count, holds) }
	for constant := range 2 {
		if is(func(row int) bool { return constant == 1 }) {
			return constant, true
		}
	}
	for place, leaf := range c.Leaves {
		for turned := range 2 {
			if is(func(row int) bool { return row>>place&1 != turned }) {
				return m.lit(2*leaf + turned), true
			}
		}
	}
	for _, pair := range thePairs {
		if pair[1] >= count {
			continue
		}
		for _, turned := range [][2]int{{0, 0}, {1, 0}, {0, 1}, {1, 1}} {
			both := func(row int) bool { return row>>pair[0]&1 != turned[0] && row>>pair[1]&1 != turned[1] }
			first, second := m.lit(2*c.Leaves[pair[0]]+turned[0]), m.lit(2*c.Leaves[pair[1]]+turned[1])
			if is(both) {
				return m.and(first, second), true
			}
			if is(func(row int) bool { return !both(row) }) {
				return m.nand(first, second), true
			}
		}
	}
	return 0, false
}

// rewriteTold says what Rewrite must answer, and of how many ands no cut decides.
func rewriteTold(a impl.Aig) (impl.Aig, int, int) {
	cuts, code := cutsTold(a, 4)
	if code != impl.OK {
		return impl.Aig{}, code, 0
	}
	m := anewOf(a)
	undecided := 0
	for at, and := range a.Ands {
		lit, decided := 0, false
		for _, c := range cuts[at][:len(cuts[at])-1] {
			if lit, decided = m.byCut(c); decided {
				break
			}
		}
		if !decided {
			lit = m.and(m.lit(and.A), m.lit(and.B))
			undecided++
		}
		m.became = append(m.became, lit)
	}
	return m.graph(a), impl.OK, undecided
}

// allParts are those of an and: as long as there is one that is an and's literal, it is replaced.
func (w waysTold) allParts(and impl.And) []int {
	parts, done := []int{and.A, and.B}, map[int]bool{}
	for at := 0; at < len(parts); at++ {
		lit := parts[at]
		if lit%2 == 0 && lit/2 >= w.first && !done[lit] {
			inner := w.a.Ands[lit/2-w.first]
			parts = append(parts, inner.A, inner.B)
			done[lit] = true
		}
	}
	return setOf(slices.DeleteFunc(parts, func(lit int) bool { return done[lit] }))
}

func (w waysTold) partsTold(and impl.And) []int {
	if parts := w.allParts(and); len(parts) <= 64 {
		return parts
	}
	return setOf([]int{and.A, and.B})
}

// madeLevel is the level of a literal that was made.
func (m *anew) madeLevel(lit int, known map[int]int) int {
	at := lit/2 - m.first
	if at < 0 {
		return 0
	}
	if _, ok := known[at]; !ok {
		known[at] = 1 + max(m.madeLevel(m.ands[at][0], known), m.madeLevel(m.ands[at][1], known))
	}
	return known[at]
}

// least takes out of a set the one of least level, of these the least one.
func (m *anew) least(set map[int]bool, known map[int]int) int {
	best, bestLevel := -1, 0
	for lit := range set {
		level := m.madeLevel(lit, known)
		if best < 0 || level < bestLevel || level == bestLevel && lit < best {
			best, bestLevel = lit, level
		}
	}
	delete(set, best)
	return best
}

func (m *anew) byParts(parts []int, known map[int]int) int {
	set := map[int]bool{}
	for _, part := range parts {
		if part == 0 || slices.Contains(parts, litTurned(part)) {
			return 0
		}
		set[m.lit(part)] = true
	}
	for len(set) > 1 {
		first := m.least(set, known)
		second := m.least(set, known)
		set[m.and(first, second)] = true
	}
	return m.least(set, known)
}

// balanceTold says what Balance must answer.
func balanceTold(a impl.Aig) (impl.Aig, int) {
	if !aigTold(a) {
		return impl.Aig{}, impl.ErrBad
	}
	m, known := anewOf(a), map[int]int{}
	for _, and := range a.Ands {
		m.became = append(m.became, m.byParts(waysOfGraph(a).partsTold(and), known))
		if len(m.ands) > 8192 {
			return impl.Aig{}, impl.ErrMany
		}
	}
	return m.graph(a), impl.OK
}

// cutsShown writes the cuts of each and, as {1 2}=8 {3}=2, with `;` between ands.
func cutsShown(all [][]impl.Cut) string {
	text := ""
	for at, cuts := range all {
		if at > 0 {
			text += "; "
		}
		text += cutsOfAnd(cuts)
	}
	return text
}

func cutsOfAnd(cuts []impl.Cut) string {
	text := ""
	for i, c := range cuts {
		if i > 0 {
			text += " "
		}
		leaves := fmt.Sprint(c.Leaves)
		text += fmt.Sprint("{", leaves[1:len(leaves)-1], "}=", c.Table)
	}
	return text
}
