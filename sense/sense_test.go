package sense

import (
	"reflect"
	"testing"

	"assay/api"
	"assay/grammar"
	"assay/rule"
	"assay/token"
)

func check(t *testing.T, text string) (*rule.Set, api.Kind, int) {
	t.Helper()
	tokens, _ := token.Read(text)
	statements, fault := grammar.Parse(tokens)
	if fault != 0 {
		t.Fatalf("%q is of no form", text)
	}
	return Check(statements)
}

func TestCheck(t *testing.T) {
	got, kind, line := check(t, "var a: 0..1; list l = [3, -4]; var b: -2..2; lin 2 * a - 3 * b - a <= 5; when a: b != -6; at l[b] = a; diff b, a; or a, !a;")
	want := &rule.Set{
		Vars: []rule.Var{{Name: "a", Low: 0, High: 1}, {Name: "b", Low: -2, High: 2}},
		Constraints: []rule.Constraint{
			{Sort: rule.Lin, Terms: []rule.Term{{Var: 0, Factor: 2}, {Var: 1, Factor: -3}, {Var: 0, Factor: -1}}, Rel: rule.AtMost, Number: 5},
			{Sort: rule.When, Truth: 0, Terms: []rule.Term{{Var: 1, Factor: 1}}, Rel: rule.Unequal, Number: -6},
			{Sort: rule.At, List: []int{3, -4}, Place: 1, Entry: 0},
			{Sort: rule.Diff, Vars: []int{1, 0}},
			{Sort: rule.Or, Lits: []rule.Lit{{Var: 0, Value: 1}, {Var: 0, Value: 0}}},
		},
	}
	if kind != api.Fine || line != 0 || !reflect.DeepEqual(got, want) {
		t.Errorf("Check = %v, %d, %d, want %v", got, kind, line, want)
	}
}

func TestCheckFaults(t *testing.T) {
	for _, c := range []struct {
		text string
		kind api.Kind
		line int
	}{
		{"\nlin x = 1;", api.Name, 2}, {"at l[x] = x;", api.Name, 1}, {"or x;", api.Name, 1}, {"var a: 0..\n-1;", api.Range, 2}, {"var a: 0..2;\nwhen a: a = 1;", api.Truth, 2},
		{"var a: 0..1; diff a, a, a, a, a, a, a, a,\na;", api.Many, 2}, {"var a: 0..2; lin a = 1000001;\nor a;", api.Range, 1},
	} {
		if got, kind, line := check(t, c.text); got != nil || kind != c.kind || line != c.line {
			t.Errorf("%q: %v, %d, %d, want %d, %d", c.text, got, kind, line, c.kind, c.line)
		}
	}
}
