package search

import (
	"slices"
	"testing"

	"assay/api"
	"assay/domain"
	"assay/rule"
)

func TestSuiting(t *testing.T) {
	values := domain.Between(-9, 9).Without(domain.Only(4)).Without(domain.Only(-6))
	holds := map[rule.Rel]func(left, right int) bool{
		rule.Equal:   func(left, right int) bool { return left == right },
		rule.Unequal: func(left, right int) bool { return left != right },
		rule.AtMost:  func(left, right int) bool { return left <= right },
	}
	for rel, is := range holds {
		for factor := -4; factor <= 4; factor++ {
			for number := -45; number <= 45; number++ {
				for _, truth := range []bool{true, false} {
					var want []int
					for v := range values.All() {
						if is(factor*v, number) == truth {
							want = append(want, v)
						}
					}
					if got := slices.Collect(suiting(values, factor, rel, number, truth).All()); !slices.Equal(got, want) {
						t.Errorf("%d times v, relation %d to %d, %v: %v, want %v", factor, rel, number, truth, got, want)
					}
				}
			}
		}
	}
}

func TestSuitingAtTheGreatestNumbers(t *testing.T) {
	all := domain.Between(-1000, 1000)
	for _, c := range []struct {
		factor, number int
		want           domain.Domain
	}{
		{800, 1800000, all}, {800, -1800000, domain.Domain{}}, {-800, 1800000, all}, {-800, -1800000, domain.Domain{}},
		{800, 799999, domain.Between(-1000, 999)}, {-800, 799999, domain.Between(-999, 1000)}, {1, -1000, domain.Only(-1000)}, {-1, -1000, domain.Only(1000)},
		{0, -1, domain.Domain{}}, {0, 0, all},
	} {
		if got := suiting(all, c.factor, rule.AtMost, c.number, true); got != c.want {
			t.Errorf("%d times v at most %d: %v", c.factor, c.number, slices.Collect(got.All()))
		}
	}
}

// rules: a of 0 to 3, b of 0 to 3, c of 0 to 1; a + b = 5; c just if b at most 2.
func rules() *rule.Set {
	return &rule.Set{
		Vars: []rule.Var{{Name: "a", Low: 0, High: 3}, {Name: "b", Low: 0, High: 3}, {Name: "c", Low: 0, High: 1}},
		Constraints: []rule.Constraint{
			{Sort: rule.Lin, Terms: []rule.Term{{Var: 0, Factor: 1}, {Var: 1, Factor: 1}}, Rel: rule.Equal, Number: 5},
			{Sort: rule.When, Truth: 2, Terms: []rule.Term{{Var: 1, Factor: 1}}, Rel: rule.AtMost, Number: 2},
		},
	}
}

func TestTrailTakesBackWhatWasConcluded(t *testing.T) {
	s := begin(rules(), api.Given, false, 9)
	s.conclude()
	first := slices.Clone(s.left)
	s.put(2, domain.Only(1))
	if !s.conclude() || s.left[1] != domain.Between(0, 2) {
		t.Fatalf("of c = 1 there follows b = %v", slices.Collect(s.left[1].All()))
	}
	second, start := slices.Clone(s.left), len(s.trail)
	s.put(0, domain.Only(3))
	if !s.conclude() || s.left[1] != domain.Only(2) || !s.fixed[1] || s.values[1] != 2 {
		t.Fatalf("of a = 3 there follows b = %v", slices.Collect(s.left[1].All()))
	}
	s.takeBack(start)
	if !slices.Equal(s.left, second) || slices.Contains(s.fixed[:2], true) || !s.fixed[2] {
		t.Error("what was concluded of the second choice stays")
	}
	s.takeBack(0)
	if !slices.Equal(s.left, first) || slices.Contains(s.fixed, true) {
		t.Error("what was concluded of the first choice stays")
	}
}

func TestTrailHasWhatChangesAlone(t *testing.T) {
	s := begin(rules(), api.Given, false, 9)
	if !s.keep(0, domain.Between(0, 3)) || len(s.trail) != 0 {
		t.Error("what is known already is put on the trail")
	}
	if !s.keep(0, domain.Between(1, 3)) || len(s.trail) != 1 {
		t.Error("a change is not put on the trail once")
	}
	if s.keep(0, domain.Domain{}) || len(s.trail) != 1 {
		t.Error("nothing is left, and that is no contradiction")
	}
}

func TestMarksEndWithAContradiction(t *testing.T) {
	s := begin(rules(), api.Given, false, 9)
	s.conclude()
	s.put(0, domain.Only(1))
	s.put(2, domain.Only(1))
	if s.conclude() {
		t.Error("a = 1 contradicts")
	}
	if slices.Contains(s.marked, true) {
		t.Error("marks stay where a contradiction was found")
	}
}

func TestWeakConcludesWhereAllIsFixedAlone(t *testing.T) {
	s := begin(rules(), api.Given, true, 9)
	s.put(0, domain.Only(1))
	if !s.conclude() || s.left[1] != domain.Between(0, 3) {
		t.Errorf("b has %v left", slices.Collect(s.left[1].All()))
	}
	s.put(1, domain.Only(3))
	if s.conclude() {
		t.Error("a = 1 and b = 3 do not contradict")
	}
}

func TestConclusionsSaveNodes(t *testing.T) {
	want := [][]int{{2, 3, 0}, {3, 2, 1}}
	for weak, nodes := range map[bool]int{false: 5, true: 9} {
		got := Solve(rules(), api.Given, weak, 1000)
		if !slices.EqualFunc(got.Solutions, want, slices.Equal) || got.Nodes != nodes {
			t.Errorf("weak %v: %v, %d nodes, want %v, %d nodes", weak, got.Solutions, got.Nodes, want, nodes)
		}
	}
}
