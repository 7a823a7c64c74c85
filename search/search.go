// Package search finds all that suits a set of rules: it chooses, draws conclusions, and goes back.
package search

import (
	"slices"

	"assay/api"
	"assay/domain"
	"assay/rule"
)

// search is a search under way. What it knows of a variable is at the variable's place in left, values and fixed.
type search struct {
	rules  *rule.Set
	order  int
	weak   bool
	budget int

	left   []domain.Domain
	values []int // the one value left, if the variable is fixed
	fixed  []bool
	trail  []change

	vars   [][]int // the variables of each constraint
	users  [][]int // the constraints of each variable
	marked []bool  // the constraints of which conclusions are still to be drawn

	result api.Result
}

// Solve tells what suits. It counts no more nodes than the budget.
func Solve(rules *rule.Set, order int, weak bool, budget int) api.Result {
	s := begin(rules, order, weak, budget)
	if s.conclude() {
		s.enter()
	}
	return s.result
}

// begin knows nothing but the bounds, so all constraints are marked.
func begin(rules *rule.Set, order int, weak bool, budget int) *search {
	count := len(rules.Vars)
	s := &search{
		rules: rules, order: order, weak: weak, budget: budget,
		left: make([]domain.Domain, count), values: make([]int, count), fixed: make([]bool, count),
		vars: make([][]int, len(rules.Constraints)), users: make([][]int, count), marked: make([]bool, len(rules.Constraints)),
	}
	for i, v := range rules.Vars {
		s.set(i, domain.Between(v.Low, v.High))
	}
	for c := range rules.Constraints {
		s.marked[c] = true
		s.vars[c] = rules.Constraints[c].Variables()
		for _, v := range s.vars[c] {
			s.users[v] = append(s.users[v], c)
		}
	}
	return s
}

// enter counts a node, goes on from there, and tells whether the search may go on behind it.
func (s *search) enter() bool {
	if s.result.Nodes >= s.budget {
		s.result.Ending = api.Budget
		return false
	}
	s.result.Nodes++
	variable := s.next()
	if variable < 0 {
		return s.tell()
	}
	return s.choose(variable)
}

// next tells which variable to choose a value of, or -1 if all are fixed. By every order but Narrow it is the first one that is open, which brings the solutions into the order of their values.
func (s *search) next() int {
	if s.order == api.Narrow {
		return s.narrowest()
	}
	return slices.Index(s.fixed, false)
}

// narrowest tells the open variable with the fewest values left, the first of those alike.
func (s *search) narrowest() int {
	variable, fewest := -1, 0
	for v, left := range s.left {
		if s.fixed[v] {
			continue
		}
		if count := left.Count(); variable < 0 || count < fewest {
			variable, fewest = v, count
		}
	}
	return variable
}

// choose tries each value of a variable that has more than one. No variable is chosen twice on one way, so at most P nodes have the same number of choices, and there are no more than n P + 1 in all.
func (s *search) choose(variable int) bool {
	for value := range s.left[variable].All() {
		start := len(s.trail)
		s.put(variable, domain.Only(value))
		if s.conclude() && !s.enter() {
			return false
		}
		s.takeBack(start)
	}
	return true
}

// tell comes where all variables are fixed without a contradiction, so their values suit.
func (s *search) tell() bool {
	if len(s.result.Solutions) == api.MaxSolutions {
		s.result.Ending = api.Solutions
		return false
	}
	s.result.Solutions = append(s.result.Solutions, slices.Clone(s.values))
	return true
}
