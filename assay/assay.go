// Package assay: all that suits, and nothing else: see DOC.md.
package assay

import (
	"assay/api"
	"assay/grammar"
	"assay/rule"
	"assay/search"
	"assay/sense"
	"assay/token"
)

// Model is a model that was read. No call changes it.
type Model struct {
	plain string
	rules *rule.Set
}

// New reads a model (P2).
func New(text string) (*Model, api.Kind, int) {
	if len(text) > api.MaxText {
		return nil, api.Long, 0
	}
	tokens, line := token.Read(text)
	if line != 0 {
		return nil, api.Token, line
	}
	statements, line := grammar.Parse(tokens)
	if line != 0 {
		return nil, api.Form, line
	}
	rules, kind, line := sense.Check(statements)
	if kind != api.Fine {
		return nil, kind, line
	}
	return &Model{plain: token.Plain(tokens), rules: rules}, api.Fine, 0
}

// Names tells the variables (P2).
func (m *Model) Names() []string {
	names := make([]string, len(m.rules.Vars))
	for i, v := range m.rules.Vars {
		names[i] = v.Name
	}
	return names
}

// Text tells the model's plain text (P3).
func (m *Model) Text() string { return m.plain }

// Suits tells whether values suit (P4).
func (m *Model) Suits(values []int) bool { return m.rules.Suits(values) }

// Solve finds what suits (P5 to P8).
func (m *Model) Solve(order int, weak bool, budget int) api.Result {
	return search.Solve(m.rules, order, weak, budget)
}
