package search

import (
	"slices"
	"testing"

	"assay/api"
	"assay/domain"
	"assay/rule"
)

// set gives the set of some values.
func set(values ...int) domain.Domain {
	var d domain.Domain
	for _, v := range values {
		d = d.With(v)
	}
	return d
}

// bounded gives rules of one constraint, with variables of the bounds.
func bounded(c rule.Constraint, bounds ...[2]int) *rule.Set {
	rules := &rule.Set{Constraints: []rule.Constraint{c}}
	for _, b := range bounds {
		rules.Vars = append(rules.Vars, rule.Var{Low: b[0], High: b[1]})
	}
	return rules
}

// leaves asks for what each variable has left behind the first conclusions, or for a contradiction if nothing is wanted.
func leaves(t *testing.T, rules *rule.Set, want ...domain.Domain) {
	t.Helper()
	s := begin(rules, api.Given, false, 1)
	if !s.conclude() {
		if len(want) > 0 {
			t.Errorf("%+v contradict", rules)
		}
		return
	}
	for v, left := range s.left {
		if len(want) == 0 || left != want[v] {
			t.Errorf("%+v leave variable %d the values %v", rules, v, slices.Collect(left.All()))
		}
	}
}

func TestAtLeaves(t *testing.T) {
	at := rule.Constraint{Sort: rule.At, List: []int{4, 9, 6, 4}, Place: 0, Entry: 1}
	leaves(t, bounded(at, [2]int{0, 9}, [2]int{0, 8}), set(1, 3, 4), set(4, 6))
	leaves(t, bounded(at, [2]int{-9, 2}, [2]int{-9, 9}), set(1, 2), set(4, 9))
	leaves(t, bounded(at, [2]int{4, 9}, [2]int{-9, 9}), set(4), set(4))
	leaves(t, bounded(at, [2]int{0, 9}, [2]int{5, 8}), set(3), set(6))
	leaves(t, bounded(at, [2]int{5, 9}, [2]int{-9, 9}))
	leaves(t, bounded(at, [2]int{0, 9}, [2]int{-9, 3}))
}

func TestAtOfOneVariableLeaves(t *testing.T) {
	at := rule.Constraint{Sort: rule.At, List: []int{2, 3, 4, 3}}
	leaves(t, bounded(at, [2]int{0, 9}), set(3, 4))
	at.List = []int{2, 2, 1}
	leaves(t, bounded(at, [2]int{0, 9}), set(2))
	at.List = []int{2, 3, 4}
	leaves(t, bounded(at, [2]int{0, 9}))
}

func TestDiffLeaves(t *testing.T) {
	diff := rule.Constraint{Sort: rule.Diff, Vars: []int{0, 1, 2}}
	leaves(t, bounded(diff, [2]int{0, 3}, [2]int{2, 2}, [2]int{0, 3}), set(0, 1, 3), set(2), set(0, 1, 3))
	leaves(t, bounded(diff, [2]int{1, 3}, [2]int{2, 2}, [2]int{2, 3}), set(1), set(2), set(3))
	leaves(t, bounded(diff, [2]int{2, 3}, [2]int{2, 2}, [2]int{2, 3}))
	leaves(t, bounded(diff, [2]int{2, 2}, [2]int{0, 9}, [2]int{2, 2}))
	leaves(t, bounded(diff, [2]int{0, 1}, [2]int{0, 1}, [2]int{0, 1}), set(0, 1), set(0, 1), set(0, 1))
}

func TestDiffOfOneVariableTwice(t *testing.T) {
	diff := rule.Constraint{Sort: rule.Diff, Vars: []int{0, 1, 0}}
	leaves(t, bounded(diff, [2]int{2, 2}, [2]int{0, 9}))
	s := begin(bounded(diff, [2]int{0, 9}, [2]int{0, 9}), api.Given, false, 1)
	s.conclude()
	s.put(0, domain.Only(3))
	if s.conclude() {
		t.Error("a value stands at two places")
	}
}

func TestOrLeaves(t *testing.T) {
	both, first, second := [2]int{0, 1}, [2]int{0, 0}, [2]int{1, 1}
	or := rule.Constraint{Sort: rule.Or, Lits: []rule.Lit{{Var: 0, Value: 1}, {Var: 1, Value: 0}, {Var: 0, Value: 1}}}
	leaves(t, bounded(or, both, both), set(0, 1), set(0, 1))
	leaves(t, bounded(or, first, both), set(0), set(0))
	leaves(t, bounded(or, both, second), set(1), set(1))
	leaves(t, bounded(or, second, both), set(1), set(0, 1))
	leaves(t, bounded(or, both, first), set(0, 1), set(0))
	leaves(t, bounded(or, first, second))
	or.Lits = []rule.Lit{{Var: 0, Value: 1}, {Var: 0, Value: 0}}
	leaves(t, bounded(or, both), set(0, 1))
}

func TestSumsLeave(t *testing.T) {
	lin := rule.Constraint{Sort: rule.Lin, Terms: []rule.Term{{Var: 0, Factor: 2}, {Var: 1, Factor: -3}}, Rel: rule.AtMost, Number: -4}
	leaves(t, bounded(lin, [2]int{-9, 9}, [2]int{2, 2}), domain.Between(-9, 1), set(2))
	leaves(t, bounded(lin, [2]int{4, 4}, [2]int{0, 6}), set(4), set(4, 5, 6))
	leaves(t, bounded(lin, [2]int{4, 4}, [2]int{0, 3}))
	when := lin
	when.Sort, when.Truth = rule.When, 2
	leaves(t, bounded(when, [2]int{-9, 9}, [2]int{2, 2}, [2]int{1, 1}), domain.Between(-9, 1), set(2), set(1))
	leaves(t, bounded(when, [2]int{-9, 9}, [2]int{2, 2}, [2]int{0, 0}), domain.Between(2, 9), set(2), set(0))
	leaves(t, bounded(when, [2]int{-9, 9}, [2]int{2, 2}, [2]int{0, 1}), domain.Between(-9, 9), set(2), set(0, 1))
}

func TestNextByEachOrder(t *testing.T) {
	rules := bounded(rule.Constraint{Sort: rule.Or, Lits: []rule.Lit{{Var: 4, Value: 1}}}, [2]int{7, 7}, [2]int{0, 4}, [2]int{-1, 1}, [2]int{5, 7}, [2]int{0, 1})
	for order, want := range map[int][]int{api.Narrow: {2, 3, 1, -1}, api.Given: {1, 2, 3, -1}, -1: {1, 2, 3, -1}, 2: {1, 2, 3, -1}} {
		s := begin(rules, order, false, 1)
		s.conclude()
		var got []int
		for range want {
			v := s.next()
			got = append(got, v)
			if v >= 0 {
				s.put(v, domain.Only(rules.Vars[v].Low))
			}
		}
		if !slices.Equal(got, want) {
			t.Errorf("order %d goes by %v, want %v", order, got, want)
		}
	}
}
