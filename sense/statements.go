package sense

import (
	"strings"

	"assay/api"
	"assay/grammar"
	"assay/rule"
	"assay/token"
)

func (c *checker) statement(s grammar.Statement) {
	switch s.Keyword.Sort {
	case token.Var:
		c.declareVar(s)
	case token.List:
		c.declareList(s)
	default:
		c.addConstraint(s)
	}
}

func (c *checker) declareVar(s grammar.Statement) {
	place := len(c.rules.Vars)
	c.room(s.Name, place, api.MaxVars)
	c.undeclared(s.Name)
	low := c.number(s.Numbers[0], api.MaxValue)
	high := c.number(s.Numbers[1], api.MaxValue)
	if high < low {
		c.fault(api.Range, s.Numbers[1])
	}
	c.declared[s.Name.Text] = thing{sort: token.Var, place: place, low: low, high: high}
	// A piece of the text would keep all of it.
	name := strings.Clone(s.Name.Text)
	c.rules.Vars = append(c.rules.Vars, rule.Var{Name: name, Low: low, High: high})
}

func (c *checker) declareList(s grammar.Statement) {
	c.undeclared(s.Name)
	var numbers []int
	for i, t := range s.Numbers {
		c.room(t, i, api.MaxList)
		numbers = append(numbers, c.number(t, api.MaxValue))
	}
	c.declared[s.Name.Text] = thing{sort: token.List, numbers: numbers}
}

func (c *checker) addConstraint(s grammar.Statement) {
	c.room(s.Keyword, len(c.rules.Constraints), api.MaxConstraints)
	r := rule.Constraint{Sort: ruleSort(s.Keyword.Sort)}
	switch r.Sort {
	case rule.When:
		r.Truth = c.truth(s.Name)
		fallthrough
	case rule.Lin:
		r.Terms = c.terms(s.Terms)
		r.Rel = ruleRel(s.Rel.Sort)
		r.Number = c.number(s.Numbers[0], api.MaxConstant)
	case rule.At:
		r.List = c.find(s.Name, token.List).numbers
		r.Place = c.variable(s.Names[0])
		r.Entry = c.variable(s.Names[1])
	case rule.Diff:
		r.Vars = c.variables(s.Names)
	case rule.Or:
		r.Lits = c.lits(s.Lits)
	}
	c.rules.Constraints = append(c.rules.Constraints, r)
}

func (c *checker) terms(terms []grammar.Term) []rule.Term {
	var all []rule.Term
	for i, t := range terms {
		c.room(t.First, i, api.MaxTerms)
		factor := c.factor(t)
		all = append(all, rule.Term{Var: c.variable(t.Name), Factor: factor})
	}
	return all
}

func (c *checker) factor(t grammar.Term) int {
	factor := 1
	if t.First.Sort == token.Int {
		factor = c.number(t.First, api.MaxFactor)
	}
	if t.TakenAway {
		return -factor
	}
	return factor
}

func (c *checker) variables(names []token.Token) []int {
	var all []int
	for i, t := range names {
		c.room(t, i, api.MaxVars)
		all = append(all, c.variable(t))
	}
	return all
}

func (c *checker) lits(lits []grammar.Lit) []rule.Lit {
	var all []rule.Lit
	for i, l := range lits {
		c.room(l.First, i, api.MaxVars)
		value := 1
		if l.First.Sort == token.Not {
			value = 0
		}
		all = append(all, rule.Lit{Var: c.truth(l.Name), Value: value})
	}
	return all
}

func ruleSort(keyword token.Sort) rule.Sort {
	switch keyword {
	case token.When:
		return rule.When
	case token.At:
		return rule.At
	case token.Diff:
		return rule.Diff
	case token.Or:
		return rule.Or
	}
	return rule.Lin
}

func ruleRel(sign token.Sort) rule.Rel {
	switch sign {
	case token.Unequal:
		return rule.Unequal
	case token.AtMost:
		return rule.AtMost
	}
	return rule.Equal
}
