// Package sense makes rules of statements, if these make sense.
package sense

import (
	"assay/api"
	"assay/grammar"
	"assay/rule"
	"assay/token"
)

// Check gives what the statements say, Fine and 0, or nil and the first fault's kind and line.
func Check(statements []grammar.Statement) (*rule.Set, api.Kind, int) {
	c := checker{declared: map[string]thing{}}
	for _, s := range statements {
		c.statement(s)
		if c.kind != api.Fine {
			return nil, c.kind, c.line
		}
	}
	return &c.rules, api.Fine, 0
}

// checker goes through each statement's tokens in their order and keeps the first fault. Of the faults of one token it must be asked in the order in which they go ahead of one another: Many, Name, Range, Truth.
type checker struct {
	declared map[string]thing
	rules    rule.Set
	kind     api.Kind
	line     int
}

// thing that a name was given to; the empty one is what an unknown name stands for, so that a statement can be gone through to its end.
type thing struct {
	sort      token.Sort // Var or List
	place     int        // of a variable, among all of them
	low, high int
	numbers   []int
}

func (c *checker) fault(kind api.Kind, t token.Token) {
	if c.kind == api.Fine {
		c.kind, c.line = kind, t.Line
	}
}

// room asks whether a thing that begins with the token may stand behind as many others.
func (c *checker) room(t token.Token, others, most int) {
	if others >= most {
		c.fault(api.Many, t)
	}
}

func (c *checker) number(t token.Token, limit int) int {
	if t.Value < -limit || t.Value > limit {
		c.fault(api.Range, t)
	}
	return t.Value
}

func (c *checker) undeclared(t token.Token) {
	if c.declared[t.Text].sort != token.None {
		c.fault(api.Name, t)
	}
}

func (c *checker) find(t token.Token, sort token.Sort) thing {
	found := c.declared[t.Text]
	if found.sort != sort {
		c.fault(api.Name, t)
		return thing{}
	}
	return found
}

func (c *checker) variable(t token.Token) int {
	return c.find(t, token.Var).place
}

func (c *checker) truth(t token.Token) int {
	found := c.find(t, token.Var)
	if found.low < 0 || found.high > 1 {
		c.fault(api.Truth, t)
	}
	return found.place
}
