package grammar

import (
	"slices"
	"testing"

	"assay/token"
)

func parse(t *testing.T, text string) ([]Statement, int) {
	t.Helper()
	tokens, fault := token.Read(text)
	if fault != 0 {
		t.Fatalf("%q has no tokens", text)
	}
	return Parse(tokens)
}

func texts(tokens []token.Token) []string {
	all := []string{}
	for _, t := range tokens {
		all = append(all, t.Text)
	}
	return all
}

func TestParseNamesAndNumbers(t *testing.T) {
	for _, c := range []struct {
		text, name     string
		names, numbers []string
		terms, lits    int
	}{
		{"var a: 1..2;", "a", nil, []string{"1", "2"}, 0, 0},
		{"list a = [1, 2, 3];", "a", nil, []string{"1", "2", "3"}, 0, 0},
		{"lin 2 * a - b + c <= 3;", "", nil, []string{"3"}, 3, 0},
		{"when d: a = 3;", "d", nil, []string{"3"}, 1, 0},
		{"at a[b] = c;", "a", []string{"b", "c"}, nil, 0, 0},
		{"diff a, b, c;", "", []string{"a", "b", "c"}, nil, 0, 0},
		{"or a, !b;", "", nil, nil, 0, 2},
	} {
		all, fault := parse(t, c.text)
		if fault != 0 || len(all) != 1 {
			t.Fatalf("%q: %d statements, fault %d", c.text, len(all), fault)
		}
		s := all[0]
		if s.Name.Text != c.name || !slices.Equal(texts(s.Names), c.names) || !slices.Equal(texts(s.Numbers), c.numbers) || len(s.Terms) != c.terms || len(s.Lits) != c.lits {
			t.Errorf("%q: %v", c.text, s)
		}
	}
}

func TestParseTermsAndLits(t *testing.T) {
	all, _ := parse(t, "lin -2 * a - b + c = 1; or a, !b;")
	if len(all) != 2 {
		t.Fatalf("%d statements", len(all))
	}
	terms := ""
	for _, x := range all[0].Terms {
		if x.TakenAway {
			terms += "-"
		}
		terms += x.First.Text + "," + x.Name.Text + ";"
	}
	if terms != "-2,a;-b,b;c,c;" {
		t.Errorf("terms %s", terms)
	}
	lits := ""
	for _, x := range all[1].Lits {
		lits += x.First.Text + "," + x.Name.Text + ";"
	}
	if lits != "a,a;!,b;" {
		t.Errorf("lits %s", lits)
	}
}

func TestParseFaults(t *testing.T) {
	for text, line := range map[string]int{"var": 1, "var\n": 2, "\n;": 2, "lin a\n\n2 = 1;\n": 3, "or a,\n,b;": 2, "diff a;\nat a[b = c;": 2} {
		if all, fault := parse(t, text); all != nil || fault != line {
			t.Errorf("%q: %v, %d, want line %d", text, all, fault, line)
		}
	}
}
