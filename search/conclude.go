package search

import (
	"slices"

	"assay/domain"
	"assay/rule"
)

// conclude draws conclusions of the marked constraints, as long as there are any, and tells whether none is a contradiction.
func (s *search) conclude() bool {
	for c := slices.Index(s.marked, true); c >= 0; c = slices.Index(s.marked, true) {
		s.marked[c] = false
		if !s.draw(c) {
			// What the other marks were made for is taken back.
			clear(s.marked)
			return false
		}
	}
	return true
}

// draw concludes what it can of one constraint, and tells whether that is no contradiction.
func (s *search) draw(c int) bool {
	constraint := &s.rules.Constraints[c]
	variable, open := s.lastOpen(s.vars[c])
	if open == 0 {
		return constraint.Suits(s.values)
	}
	if s.weak {
		return true
	}
	truth := true
	switch constraint.Sort {
	case rule.When:
		if !s.fixed[constraint.Truth] {
			return true
		}
		truth = s.values[constraint.Truth] == 1
		fallthrough
	case rule.Lin:
		return open > 1 || s.drawSum(constraint, truth, variable)
	case rule.At:
		return s.drawAt(constraint)
	case rule.Diff:
		return s.drawDiff(constraint.Vars)
	case rule.Or:
		return s.drawOr(constraint.Lits)
	}
	return true
}

// lastOpen tells the last variable that has more than one value left, and how many have.
func (s *search) lastOpen(vars []int) (variable, open int) {
	for _, v := range vars {
		if !s.fixed[v] {
			variable = v
			open++
		}
	}
	return variable, open
}

// drawSum leaves the one open variable of a sum the values that suit.
func (s *search) drawSum(c *rule.Constraint, truth bool, variable int) bool {
	factor, rest := s.split(c.Terms, variable)
	return s.keep(variable, suiting(s.left[variable], factor, c.Rel, c.Number-rest, truth))
}

// drawAt leaves the places at which a number stands that is left, and the numbers that stand there.
func (s *search) drawAt(c *rule.Constraint) bool {
	var places, numbers domain.Domain
	for i, number := range c.List {
		if s.left[c.Place].Has(i+1) && s.left[c.Entry].Has(number) {
			places = places.With(i + 1)
			numbers = numbers.With(number)
		}
	}
	// Both may be one variable, which has lost values then to the first half of the conclusion.
	return s.keep(c.Place, places) && s.keep(c.Entry, numbers.And(s.left[c.Entry]))
}

// drawDiff takes the value of each fixed variable from all other places, so one that stands there twice has none left.
func (s *search) drawDiff(vars []int) bool {
	for i, v := range vars {
		if s.fixed[v] && !(s.take(s.values[v], vars[:i]) && s.take(s.values[v], vars[i+1:])) {
			return false
		}
	}
	return true
}

// take takes a value from variables, and tells whether each has another one left.
func (s *search) take(value int, vars []int) bool {
	for _, v := range vars {
		if s.left[v].Has(value) && !s.keep(v, s.left[v].Without(domain.Only(value))) {
			return false
		}
	}
	return true
}

// drawOr makes a lit true if no other one may be. Some lit may: that of a variable that is open.
func (s *search) drawOr(lits []rule.Lit) bool {
	mayBe := func(l rule.Lit) bool { return s.left[l.Var].Has(l.Value) }
	first := lits[slices.IndexFunc(lits, mayBe)]
	if slices.ContainsFunc(lits, func(l rule.Lit) bool { return l != first && mayBe(l) }) {
		return true
	}
	return s.keep(first.Var, domain.Only(first.Value))
}

// keep leaves a variable those of its values that a conclusion has kept, and tells whether there are any.
func (s *search) keep(variable int, kept domain.Domain) bool {
	if kept == (domain.Domain{}) {
		return false
	}
	if kept != s.left[variable] {
		s.put(variable, kept)
	}
	return true
}
