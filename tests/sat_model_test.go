package tests

import (
	"slices"

	"loop.example/g00031/impl"
)

// clausesTold says what ClausesOK must answer, where a clause may have so many literals.
func clausesTold(vars int, clauses [][]int, most int) bool {
	if vars < 0 || vars > 2048 || len(clauses) > 8192 {
		return false
	}
	for _, clause := range clauses {
		if len(clause) > most {
			return false
		}
		for _, lit := range clause {
			if variable := max(lit, -lit); variable < 1 || variable > vars {
				return false
			}
		}
	}
	return true
}

// assumption is the literals that are assumed.
type assumption map[int]bool

// followed puts what follows to an assumption, clause by clause, as long as there is something; it tells whether there is a contradiction.
func (a assumption) followed(clauses [][]int) bool {
	for more := true; more; {
		more = false
		for _, clause := range clauses {
			if slices.ContainsFunc(clause, func(lit int) bool { return a[lit] }) {
				continue
			}
			left := setOf(slices.DeleteFunc(slices.Clone(clause), func(lit int) bool { return a[-lit] }))
			switch len(left) {
			case 0:
				return true
			case 1:
				a[left[0]] = true
				more = true
			}
		}
	}
	return false
}

// solverTold searches as the chapter says it, anew from the decisions each time.
type solverTold struct {
	vars    int
	clauses [][]int
	work    int
	res     impl.SatRes
	usedUp  bool
}

func (s *solverTold) fails(decisions []int) bool {
	if s.res.Work == s.work {
		s.usedUp = true
		return false
	}
	s.res.Work++
	assumed := assumption{}
	for _, lit := range decisions {
		assumed[lit] = true
	}
	failed := assumed.followed(s.clauses)
	if !failed {
		open := 1
		for open <= s.vars && (assumed[open] || assumed[-open]) {
			open++
		}
		if open > s.vars {
			for v := 1; v <= s.vars; v++ {
				s.res.Model = append(s.res.Model, numberIf(assumed[v]))
			}
			return false
		}
		failed = s.fails(append(slices.Clone(decisions), -open)) && s.fails(append(slices.Clone(decisions), open))
	}
	if failed {
		var clause []int
		for _, lit := range decisions {
			clause = append(clause, -lit)
		}
		s.res.Trace = append(s.res.Trace, clause)
	}
	return failed
}

// solveTold says what Solve must answer.
func solveTold(vars int, clauses [][]int, work int) (impl.SatRes, int) {
	if !clausesTold(vars, clauses, 64) {
		return impl.SatRes{}, impl.ErrBad
	}
	if work < 1 || work > 4000 {
		return impl.SatRes{}, impl.ErrRange
	}
	s := &solverTold{vars: vars, clauses: clauses, work: work}
	failed := s.fails(nil)
	switch {
	case s.usedUp:
		return impl.SatRes{}, impl.ErrWork
	case failed:
		s.res.Kind = impl.Unsat
	default:
		s.res.Kind, s.res.Trace = impl.Sat, nil
	}
	return s.res, impl.OK
}

// checkTold says what CheckTrace must answer.
func checkTold(vars int, clauses [][]int, trace [][]int) bool {
	if !clausesTold(vars, clauses, 64) || !clausesTold(vars, trace, vars) || len(trace) == 0 || len(trace[len(trace)-1]) > 0 {
		return false
	}
	for i, clause := range trace {
		turned, fine := assumption{}, false
		for _, lit := range clause {
			turned[-lit] = true
			fine = fine || turned[lit]
		}
		if !fine && !turned.followed(slices.Concat(clauses, trace[:i])) {
			return false
		}
	}
	return true
}

// leastModel goes through all values, the lowest variables counting most; false where none makes all clauses true.
func leastModel(vars int, clauses [][]int) ([]int, bool) {
	values := make([]int, vars)
	holds := func(lit int) bool { return values[max(lit, -lit)-1] == numberIf(lit > 0) }
	for row := range 1 << vars {
		for v := range values {
			values[v] = row >> (vars - 1 - v) % 2
		}
		if !slices.ContainsFunc(clauses, func(clause []int) bool { return !slices.ContainsFunc(clause, holds) }) {
			return values, true
		}
	}
	return nil, false
}

// tseitinTold says what Tseitin must answer: it goes down from the literal, and sorts what it came by.
func tseitinTold(a impl.Aig, lit int) (int, [][]int, int) {
	if !aigTold(a) {
		return 0, nil, impl.ErrBad
	}
	w := waysOfGraph(a)
	if lit < 0 || lit >= 2*w.variables() {
		return 0, nil, impl.ErrBad
	}
	needed := map[int]bool{}
	for ahead := []int{lit / 2}; len(ahead) > 0; {
		variable := ahead[0]
		ahead = ahead[1:]
		if variable >= w.first && !needed[variable] {
			needed[variable] = true
			and := a.Ands[variable-w.first]
			ahead = append(ahead, and.B/2, and.A/2)
		}
	}
	told := func(lit int) int { return (lit/2 + 1) * (1 - lit%2*2) }
	clauses := [][]int{{-1}}
	for variable := range w.variables() {
		if needed[variable] {
			and := a.Ands[variable-w.first]
			n, x, y := variable+1, told(and.A), told(and.B)
			clauses = append(clauses, []int{-n, x}, []int{-n, y}, []int{n, -x, -y})
		}
	}
	clauses = append(clauses, []int{told(lit)})
	if w.variables() > 2048 || len(clauses) > 8192 {
		return 0, nil, impl.ErrMany
	}
	return w.variables(), clauses, impl.OK
}
