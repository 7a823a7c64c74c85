package rule

import (
	"slices"
	"testing"
)

func TestSuits(t *testing.T) {
	vars := []Var{{"a", 0, 3}, {"b", 0, 3}}
	terms := []Term{{0, 2}, {1, -1}}
	for _, c := range []struct {
		constraint Constraint
		a, b       int
		suits      bool
	}{
		{Constraint{Sort: Lin, Terms: terms, Rel: Equal, Number: 3}, 2, 1, true}, {Constraint{Sort: Lin, Terms: terms, Rel: Equal, Number: 3}, 2, 2, false},
		{Constraint{Sort: Lin, Terms: terms, Rel: Unequal, Number: 3}, 2, 1, false}, {Constraint{Sort: Lin, Terms: terms, Rel: Unequal, Number: 3}, 2, 2, true},
		{Constraint{Sort: Lin, Terms: terms, Rel: AtMost, Number: 3}, 2, 1, true}, {Constraint{Sort: Lin, Terms: terms, Rel: AtMost, Number: 3}, 2, 0, false},
		{Constraint{Sort: When, Truth: 1, Terms: terms, Rel: AtMost, Number: 3}, 2, 1, true}, {Constraint{Sort: When, Truth: 1, Terms: terms, Rel: AtMost, Number: 3}, 2, 0, true}, {Constraint{Sort: When, Truth: 1, Terms: terms, Rel: AtMost, Number: 3}, 0, 0, false},
		{Constraint{Sort: At, List: []int{3, 1}, Place: 0, Entry: 1}, 1, 3, true}, {Constraint{Sort: At, List: []int{3, 1}, Place: 0, Entry: 1}, 2, 3, false}, {Constraint{Sort: At, List: []int{3, 1}, Place: 0, Entry: 1}, 0, 3, false}, {Constraint{Sort: At, List: []int{3, 1}, Place: 0, Entry: 1}, 3, 1, false},
		{Constraint{Sort: Diff, Vars: []int{0, 1}}, 1, 2, true}, {Constraint{Sort: Diff, Vars: []int{0, 1}}, 2, 2, false}, {Constraint{Sort: Diff, Vars: []int{0, 0}}, 1, 2, false},
		{Constraint{Sort: Or, Lits: []Lit{{0, 1}, {1, 0}}}, 1, 1, true}, {Constraint{Sort: Or, Lits: []Lit{{0, 1}, {1, 0}}}, 0, 1, false}, {Constraint{Sort: Or, Lits: []Lit{{0, 1}, {1, 0}}}, 0, 0, true},
	} {
		set := Set{Vars: vars, Constraints: []Constraint{c.constraint}}
		if got := set.Suits([]int{c.a, c.b}); got != c.suits {
			t.Errorf("%v: Suits of %d, %d = %v", c.constraint, c.a, c.b, got)
		}
	}
}

func TestSuitsOfNoAssignment(t *testing.T) {
	set := Set{Vars: []Var{{"a", 0, 3}, {"b", -1, 1}}}
	for _, values := range [][]int{nil, {0}, {0, 0, 0}, {-1, 0}, {4, 0}, {0, -2}, {0, 2}} {
		if set.Suits(values) {
			t.Errorf("Suits of %v", values)
		}
	}
}

func TestVariables(t *testing.T) {
	terms := []Term{{4, 2}, {1, -1}, {4, 3}}
	for _, c := range []struct {
		constraint Constraint
		want       []int
	}{
		{Constraint{Sort: Lin, Terms: terms, Truth: 7}, []int{1, 4}},
		{Constraint{Sort: When, Terms: terms, Truth: 7}, []int{1, 4, 7}},
		{Constraint{Sort: When, Terms: terms, Truth: 1}, []int{1, 4}},
		{Constraint{Sort: At, Place: 5, Entry: 2}, []int{2, 5}},
		{Constraint{Sort: At, Place: 3, Entry: 3}, []int{3}},
		{Constraint{Sort: Diff, Vars: []int{6, 2, 6, 1}}, []int{1, 2, 6}},
		{Constraint{Sort: Or, Lits: []Lit{{3, 0}, {2, 1}, {3, 1}}}, []int{2, 3}},
	} {
		if got := c.constraint.Variables(); !slices.Equal(got, c.want) {
			t.Errorf("%v has the variables %v, want %v", c.constraint, got, c.want)
		}
	}
	diff := Constraint{Sort: Diff, Vars: []int{6, 2}}
	if diff.Variables(); !slices.Equal(diff.Vars, []int{6, 2}) {
		t.Errorf("Variables changes its constraint: %v", diff.Vars)
	}
}
