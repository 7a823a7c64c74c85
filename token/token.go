// Package token reads the tokens of a model's text and lays tokens out as plain text.
package token

// Sort of a token.
type Sort int

const (
	None Sort = iota // no token at all
	End              // the text's end, so that a reader never runs out of tokens
	Name
	Int

	Var
	List
	Lin
	When
	At
	Diff
	Or

	Semicolon
	Colon
	Comma
	Equal
	Unequal
	AtMost
	Dots
	Open
	Close
	Plus
	Star
	Not
	Minus
)

// Token of a text. Text is a piece of what was read: who keeps it must clone it.
type Token struct {
	Sort  Sort
	Text  string
	Value int // of an Int
	Line  int
}
