package tests

import (
	"fmt"
	"slices"
	"strings"

	"loop.example/g00031/impl"
)

// clausesRead reads clauses with `,` between them, of each its literals with blanks between them; one without literals is `.`.
func clausesRead(text string) [][]int {
	var clauses [][]int
	if text == "" {
		return nil
	}
	for part := range strings.SplitSeq(text, ",") {
		clauses = append(clauses, numbersRead(strings.ReplaceAll(part, ".", "")))
	}
	return clauses
}

// clausesWritten writes clauses as clausesRead reads them.
func clausesWritten(clauses [][]int) string {
	var parts []string
	for _, clause := range clauses {
		part := "."
		if len(clause) > 0 {
			part = strings.Trim(fmt.Sprint(clause), "[]")
		}
		parts = append(parts, part)
	}
	return strings.Join(parts, ", ")
}

// modelWritten is a bit for each variable, from 1 on.
func modelWritten(model []int) string {
	var text strings.Builder
	for _, value := range model {
		fmt.Fprint(&text, value)
	}
	return text.String()
}

// satShown writes all of an answer out; nothing in it is left out.
func satShown(r impl.SatRes) string {
	return fmt.Sprintf("kind %d, model %s, %d of trace: %s; work %d", r.Kind, modelWritten(r.Model), len(r.Trace), clausesWritten(r.Trace), r.Work)
}

// logician draws clauses of all kinds: without literals, with one, with one twice or beside its opposite, with more than there are variables.
type logician struct{ choices }

func logicianOf(seed uint64) *logician {
	return &logician{choices{seed: seed*0x9e3779b97f4a7c15 | 1}}
}

func (l *logician) lit(vars int) int {
	return (1 + l.below(vars)) * (1 - 2*l.below(2))
}

func (l *logician) clause(vars, length int) []int {
	var clause []int
	for range length {
		clause = append(clause, l.lit(vars))
		if l.below(30) == 0 {
			// a literal again, or its opposite
			clause = append(clause, clause[l.below(len(clause))]*(1-2*l.below(2)))
		}
	}
	return mixed(&l.choices, clause)
}

// clauses has so many, of that length or, in half of the lists, of about that length.
func (l *logician) clauses(vars, count, length int) [][]int {
	var all [][]int
	about := l.below(2) == 0
	for range count {
		by := length
		if about && l.below(8) == 0 {
			by = max(length-1+l.below(3), 1)
		}
		all = append(all, l.clause(vars, by))
	}
	return all
}

// tight has about as many clauses as make the half of such lists contradictory, most of them not at once.
func (l *logician) tight(vars int) [][]int {
	length := []int{1, 2, 3, 3, 3, 4, 4}[l.below(7)]
	count := vars * []int{1, 2, 9, 20}[length-1] / 2
	return l.clauses(vars, 1+count*3/4+l.below(count+2), length)
}

// chained has literals that follow one from the other, and ends of such chains.
func (l *logician) chained(vars int) [][]int {
	var all [][]int
	last := l.lit(vars)
	for range vars + l.below(vars+1) {
		next := l.lit(vars)
		clause := []int{-last, next}
		if l.below(4) == 0 {
			clause = append(clause, l.lit(vars))
		}
		all = append(all, mixed(&l.choices, clause))
		if last = next; l.below(5) == 0 {
			last = l.lit(vars)
		}
	}
	return mixed(&l.choices, append(all, l.clauses(vars, 1+l.below(vars), 1+l.below(3))...))
}

// any is a number of variables of at most so many, and clauses of them.
func (l *logician) any(most int) (int, [][]int) {
	vars := l.below(most + 1)
	if l.below(3) > 0 {
		vars = most
	}
	var all [][]int
	switch {
	case vars == 0:
		all = make([][]int, l.below(3))
	case l.below(3) == 0:
		all = l.chained(vars)
	default:
		all = l.tight(vars)
	}
	if l.below(60) == 0 {
		all = slices.Insert(all, l.below(len(all)+1), nil)
	}
	return vars, all
}

// spoilt changes something of clauses: one is left out, put in, put at another place or changed in a literal.
func (l *logician) spoilt(vars int, clauses [][]int) [][]int {
	all := clausesCopied(clauses)
	if len(all) == 0 || vars == 0 {
		return append(all, nil)
	}
	at := l.below(len(all))
	clause := all[at]
	switch kind := l.below(7); {
	case kind == 0:
		all = slices.Delete(all, at, at+1)
	case kind == 1:
		all = slices.Insert(all, at, l.clause(vars, 1+l.below(3)))
	case kind == 2:
		other := l.below(len(all))
		all[at], all[other] = all[other], all[at]
	case kind == 3 || len(clause) == 0:
		all[at] = append(clause, l.lit(vars))
	case kind == 4:
		clause[l.below(len(clause))] *= -1
	case kind == 5:
		all[at] = slices.Delete(clause, 0, 1)
	default:
		all[at] = clause[:len(clause)-1]
	}
	return all
}

// trace draws one that was never searched for: clauses that grow shorter, the last one without literals.
func (l *logician) trace(vars int) [][]int {
	var all [][]int
	for range l.below(6) {
		all = append(all, l.clause(vars, 1+l.below(3)))
	}
	slices.SortFunc(all, func(a, b []int) int { return len(b) - len(a) })
	return append(all, nil)
}

func clausesCopied(clauses [][]int) [][]int {
	var all [][]int
	for _, clause := range clauses {
		all = append(all, slices.Clone(clause))
	}
	return all
}

// roomyClauses are copies with room behind each list.
func roomyClauses(clauses [][]int) [][]int {
	var all [][]int
	for _, clause := range clauses {
		all = append(all, roomyList(clause, 77))
	}
	return roomyList(all, []int{-77})
}

// wholeClauses writes clauses out with what stands behind their lists.
func wholeClauses(clauses [][]int) string {
	text := ""
	for _, clause := range clauses[:cap(clauses)] {
		text += fmt.Sprint(clause[:cap(clause)])
	}
	return text
}

// pigeons are clauses for so many pigeons in so many holes, of which none is in one with another.
func pigeons(count, holes int) (int, [][]int) {
	var all [][]int
	at := func(pigeon, hole int) int { return 1 + pigeon*holes + hole }
	for pigeon := range count {
		var somewhere []int
		for hole := range holes {
			somewhere = append(somewhere, at(pigeon, hole))
		}
		all = append(all, somewhere)
	}
	for hole := range holes {
		for pigeon := range count {
			for other := range pigeon {
				all = append(all, []int{-at(other, hole), -at(pigeon, hole)})
			}
		}
	}
	return count * holes, all
}

// allRows are the clauses that leave out each row of values of so many variables.
func allRows(vars int) [][]int {
	var all [][]int
	for row := range 1 << vars {
		var clause []int
		for v := range vars {
			clause = append(clause, (v+1)*(1-2*(row>>(vars-1-v)%2)))
		}
		all = append(all, clause)
	}
	return all
}

// ladder has so many variables of which each one, where it is 0, leads to a contradiction by the last variable; behind them are so many of which none is held by anything.
func ladder(steps, free int) (int, [][]int) {
	last := steps + free + 1
	var all [][]int
	for v := 1; v <= steps; v++ {
		all = append(all, []int{v, last}, []int{-last, v})
	}
	return last, all
}

// brokenLadder is one with steps at whose end two variables have no values.
func brokenLadder(steps int) (int, [][]int) {
	last, all := ladder(steps, 2)
	one, other := steps+1, steps+2
	return last, append(all, []int{one, other}, []int{one, -other}, []int{-one, other}, []int{-one, -other})
}

// brokenTrace is what a broken ladder's search puts to its trace.
func brokenTrace(steps int) [][]int {
	var trace [][]int
	below := func(v int) []int {
		var clause []int
		for lower := 1; lower < v; lower++ {
			clause = append(clause, -lower)
		}
		return clause
	}
	for v := 1; v <= steps; v++ {
		trace = append(trace, append(below(v), v))
	}
	trace = append(trace, append(below(steps+1), steps+1), append(below(steps+1), -steps-1))
	for v := steps + 1; v >= 1; v-- {
		trace = append(trace, below(v))
	}
	return trace
}
