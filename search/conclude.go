package search

import (
	"slices"

	"assay/domain"
	"assay/rule"
)

// conclude draws conclusions of the marked constraints, as long as there are any, and tells whether none is a contradiction.
func (s *search) conclude() bool {
	for c := slices.Index(s.marked, true); c >= 0; c = slices.Index(s.marked, true) {
		s.marked[c] = false
		if !s.draw(c) {
			// What the other marks were made for is taken back.
			clear(s.marked)
			return false
		}
	}
	return true
}

// draw concludes what it can of one constraint, and tells whether that is no contradiction.
func (s *search) draw(c int) bool {
	constraint := &s.rules.Constraints[c]
	variable, open := s.lastOpen(s.vars[c])
	if open == 0 {
		return constraint.Suits(s.values)
	}
	if open > 1 || s.weak {
		return true
	}
	return s.narrow(constraint, variable)
}

// lastOpen tells the last variable that has more than one value left, and how many have.
func (s *search) lastOpen(vars []int) (variable, open int) {
	for _, v := range vars {
		if !s.fixed[v] {
			variable = v
			open++
		}
	}
	return variable, open
}

// narrow leaves the one open variable of a sum the values that suit. Other sorts, and an open truth, are left to choosing.
func (s *search) narrow(c *rule.Constraint, variable int) bool {
	truth := true
	switch c.Sort {
	case rule.When:
		if variable == c.Truth {
			return true
		}
		truth = s.values[c.Truth] == 1
		fallthrough
	case rule.Lin:
		factor, rest := s.split(c.Terms, variable)
		return s.keep(variable, suiting(s.left[variable], factor, c.Rel, c.Number-rest, truth))
	}
	return true
}

// keep leaves a variable no more than a conclusion has kept, and tells whether that is anything.
func (s *search) keep(variable int, kept domain.Domain) bool {
	if kept == (domain.Domain{}) {
		return false
	}
	if kept != s.left[variable] {
		s.put(variable, kept)
	}
	return true
}
