// Package grammar finds the statements that tokens make up.
package grammar

import (
	"slices"

	"assay/token"
)

// Statement has room for what all statements are made of; what its keyword does not ask for is empty.
type Statement struct {
	Keyword token.Token
	Name    token.Token   // of var, list, when and at: the one behind the keyword
	Names   []token.Token // of at: the place and the number there; of diff: all
	Numbers []token.Token // all that stand outside of a sum
	Terms   []Term
	Rel     token.Token
	Lits    []Lit
}

// Term of a sum. First is its factor, or Name again if it has none.
type Term struct {
	TakenAway   bool
	First, Name token.Token
}

// Lit of an or. First is its mark of negation, or Name again if it has none.
type Lit struct {
	First, Name token.Token
}

// Parse gives the statements of tokens that an End stands behind, or the line of the first token that cannot stand where it stands.
func Parse(tokens []token.Token) ([]Statement, int) {
	p := parser{tokens: tokens}
	var statements []Statement
	for p.fault == 0 && !p.sees(token.End) {
		statements = append(statements, p.statement())
		p.take(token.Semicolon)
	}
	if p.fault != 0 {
		return nil, p.fault
	}
	return statements, 0
}

// parser stands still from its first fault on, so that nobody but Parse need ask for faults.
type parser struct {
	tokens []token.Token
	next   int
	fault  int // a line, or 0
}

// sees is false behind a fault, so that every loop that asks it ends.
func (p *parser) sees(sort token.Sort) bool {
	return p.fault == 0 && p.tokens[p.next].Sort == sort
}

// take goes on by one token, which must be of one of the sorts. None of its callers takes an End, so there is always a next token.
func (p *parser) take(sorts ...token.Sort) token.Token {
	t := p.tokens[p.next]
	switch {
	case p.fault != 0:
	case slices.Contains(sorts, t.Sort):
		p.next++
	default:
		p.fault = t.Line
	}
	return t
}

func (p *parser) statement() Statement {
	s := Statement{Keyword: p.take(token.Var, token.List, token.Lin, token.When, token.At, token.Diff, token.Or)}
	switch s.Keyword.Sort {
	case token.Var:
		s.Name = p.name()
		p.take(token.Colon)
		low := p.number()
		p.take(token.Dots)
		s.Numbers = []token.Token{low, p.number()}
	case token.List:
		s.Name = p.name()
		p.take(token.Equal)
		p.take(token.Open)
		s.Numbers = series(p, p.number)
		p.take(token.Close)
	case token.When:
		s.Name = p.name()
		p.take(token.Colon)
		fallthrough
	case token.Lin:
		s.Terms = p.sum()
		s.Rel = p.take(token.Equal, token.Unequal, token.AtMost)
		s.Numbers = []token.Token{p.number()}
	case token.At:
		s.Name = p.name()
		p.take(token.Open)
		place := p.name()
		p.take(token.Close)
		p.take(token.Equal)
		s.Names = []token.Token{place, p.name()}
	case token.Diff:
		s.Names = series(p, p.name)
	case token.Or:
		s.Lits = series(p, p.lit)
	}
	return s
}

// series reads one thing or more, with commas between.
func series[T any](p *parser, one func() T) []T {
	all := []T{one()}
	for p.sees(token.Comma) {
		p.take(token.Comma)
		all = append(all, one())
	}
	return all
}

func (p *parser) name() token.Token { return p.take(token.Name) }

func (p *parser) number() token.Token { return p.take(token.Int) }

func (p *parser) sum() []Term {
	terms := []Term{p.term(false)}
	for p.sees(token.Plus) || p.sees(token.Minus) {
		sign := p.take(token.Plus, token.Minus)
		terms = append(terms, p.term(sign.Sort == token.Minus))
	}
	return terms
}

func (p *parser) term(takenAway bool) Term {
	first := p.take(token.Int, token.Name)
	if first.Sort != token.Int {
		return Term{TakenAway: takenAway, First: first, Name: first}
	}
	p.take(token.Star)
	return Term{TakenAway: takenAway, First: first, Name: p.name()}
}

func (p *parser) lit() Lit {
	first := p.take(token.Not, token.Name)
	if first.Sort != token.Not {
		return Lit{First: first, Name: first}
	}
	return Lit{First: first, Name: p.name()}
}
