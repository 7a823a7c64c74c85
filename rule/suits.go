package rule

// Suits tells whether values, one for each variable, suit all constraints.
func (s *Set) Suits(values []int) bool {
	// Values out of their bounds come no further, so no sum below can wrap round.
	if !s.isAssignment(values) {
		return false
	}
	for _, c := range s.Constraints {
		if !c.Suits(values) {
			return false
		}
	}
	return true
}

func (s *Set) isAssignment(values []int) bool {
	if len(values) != len(s.Vars) {
		return false
	}
	for i, v := range s.Vars {
		if values[i] < v.Low || values[i] > v.High {
			return false
		}
	}
	return true
}

// Suits tells whether values within their bounds, one for each variable of the set, suit the constraint. It asks for no others than those of the constraint's variables.
func (c *Constraint) Suits(values []int) bool {
	truth := true
	switch c.Sort {
	case When:
		truth = values[c.Truth] == 1
		fallthrough
	case Lin:
		return c.Rel.holds(sum(c.Terms, values), c.Number) == truth
	case At:
		place := values[c.Place]
		return 1 <= place && place <= len(c.List) && c.List[place-1] == values[c.Entry]
	case Diff:
		return allDiffer(c.Vars, values)
	case Or:
		return someTrue(c.Lits, values)
	}
	return false
}

func (r Rel) holds(left, right int) bool {
	switch r {
	case Equal:
		return left == right
	case Unequal:
		return left != right
	case AtMost:
		return left <= right
	}
	return false
}

func sum(terms []Term, values []int) int {
	total := 0
	for _, t := range terms {
		total += t.Factor * values[t.Var]
	}
	return total
}

// allDiffer holds places against each other, not variables: one that stands there twice differs never.
func allDiffer(vars, values []int) bool {
	for i, v := range vars {
		for _, w := range vars[:i] {
			if values[v] == values[w] {
				return false
			}
		}
	}
	return true
}

func someTrue(lits []Lit, values []int) bool {
	for _, l := range lits {
		if values[l.Var] == l.Value {
			return true
		}
	}
	return false
}
