// Package rule has what a model says: its variables, and the constraints on their values.
package rule

import "slices"

// Set of all that a model says. Constraints name variables by their places in Vars.
type Set struct {
	Vars        []Var
	Constraints []Constraint
}

// Var is a variable, with its bounds.
type Var struct {
	Name      string
	Low, High int
}

// Sort of a constraint.
type Sort int

const (
	Lin Sort = iota
	When
	At
	Diff
	Or
)

// Rel of a sum to a number.
type Rel int

const (
	Equal Rel = iota
	Unequal
	AtMost
)

// Term of a sum. The factor of one that is taken away is turned round.
type Term struct {
	Var, Factor int
}

// Lit is true if its variable has the value.
type Lit struct {
	Var, Value int
}

// Constraint has room for what all sorts are made of; what its sort does not ask for is empty.
type Constraint struct {
	Sort  Sort
	Truth int // of when: the variable that tells whether the rest is so

	Terms  []Term
	Rel    Rel
	Number int

	List         []int
	Place, Entry int // of at: variables

	Vars []int
	Lits []Lit
}

// Variables gives all variables that stand in a constraint, each once.
func (c *Constraint) Variables() []int {
	var vars []int
	switch c.Sort {
	case When:
		vars = append(vars, c.Truth)
		fallthrough
	case Lin:
		for _, t := range c.Terms {
			vars = append(vars, t.Var)
		}
	case At:
		vars = append(vars, c.Place, c.Entry)
	case Diff:
		vars = append(vars, c.Vars...)
	case Or:
		for _, l := range c.Lits {
			vars = append(vars, l.Var)
		}
	}
	slices.Sort(vars)
	return slices.Compact(vars)
}
