package rule

import "testing"

func TestSuits(t *testing.T) {
	vars := []Var{{"a", 0, 3}, {"b", 0, 3}}
	terms := []Term{{0, 2}, {1, -1}}
	for _, c := range []struct {
		constraint Constraint
		a, b       int
		suits      bool
	}{
		{Constraint{Sort: Lin, Terms: terms, Rel: Equal, Number: 3}, 2, 1, true}, {Constraint{Sort: Lin, Terms: terms, Rel: Equal, Number: 3}, 2, 2, false},
		{Constraint{Sort: Lin, Terms: terms, Rel: Unequal, Number: 3}, 2, 1, false}, {Constraint{Sort: Lin, Terms: terms, Rel: Unequal, Number: 3}, 2, 2, true},
		{Constraint{Sort: Lin, Terms: terms, Rel: AtMost, Number: 3}, 2, 1, true}, {Constraint{Sort: Lin, Terms: terms, Rel: AtMost, Number: 3}, 2, 0, false},
		{Constraint{Sort: When, Truth: 1, Terms: terms, Rel: AtMost, Number: 3}, 2, 1, true}, {Constraint{Sort: When, Truth: 1, Terms: terms, Rel: AtMost, Number: 3}, 2, 0, true}, {Constraint{Sort: When, Truth: 1, Terms: terms, Rel: AtMost, Number: 3}, 0, 0, false},
		{Constraint{Sort: At, List: []int{3, 1}, Place: 0, Entry: 1}, 1, 3, true}, {Constraint{Sort: At, List: []int{3, 1}, Place: 0, Entry: 1}, 2, 3, false}, {Constraint{Sort: At, List: []int{3, 1}, Place: 0, Entry: 1}, 0, 3, false}, {Constraint{Sort: At, List: []int{3, 1}, Place: 0, Entry: 1}, 3, 1, false},
		{Constraint{Sort: Diff, Vars: []int{0, 1}}, 1, 2, true}, {Constraint{Sort: Diff, Vars: []int{0, 1}}, 2, 2, false}, {Constraint{Sort: Diff, Vars: []int{0, 0}}, 1, 2, false},
		{Constraint{Sort: Or, Lits: []Lit{{0, 1}, {1, 0}}}, 1, 1, true}, {Constraint{Sort: Or, Lits: []Lit{{0, 1}, {1, 0}}}, 0, 1, false}, {Constraint{Sort: Or, Lits: []Lit{{0, 1}, {1, 0}}}, 0, 0, true},
	} {
		set := Set{Vars: vars, Constraints: []Constraint{c.constraint}}
		if got := set.Suits([]int{c.a, c.b}); got != c.suits {
			t.Errorf("%v: Suits of %d, %d = %v", c.constraint, c.a, c.b, got)
		}
	}
}

func TestSuitsOfNoAssignment(t *testing.T) {
	set := Set{Vars: []Var{{"a", 0, 3}, {"b", -1, 1}}}
	for _, values := range [][]int{nil, {0}, {0, 0, 0}, {-1, 0}, {4, 0}, {0, -2}, {0, 2}} {
		if set.Suits(values) {
			t.Errorf("Suits of %v", values)
		}
	}
}
