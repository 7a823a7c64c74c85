package token

import (
	"slices"
	"testing"
)

func TestRead(t *testing.T) {
	for text, want := range map[string][]Token{
		"":           {{Sort: End, Line: 1}},
		"% x\n\t \n": {{Sort: End, Line: 3}},
		"vara var":   {{Name, "vara", 0, 1}, {Var, "var", 0, 1}, {End, "", 0, 1}},
		"-07-\n-x":   {{Int, "-07", -7, 1}, {Minus, "-", 0, 1}, {Minus, "-", 0, 2}, {Name, "x", 0, 2}, {End, "", 0, 2}},
		"!=!<==....": {{Unequal, "!=", 0, 1}, {Not, "!", 0, 1}, {AtMost, "<=", 0, 1}, {Equal, "=", 0, 1}, {Dots, "..", 0, 1}, {Dots, "..", 0, 1}, {End, "", 0, 1}},
		"1a2%;\n3":   {{Int, "1", 1, 1}, {Name, "a2", 0, 1}, {Int, "3", 3, 2}, {End, "", 0, 2}},
		"0123456789": {{Int, "0123456789", 123456789, 1}, {End, "", 0, 1}},
	} {
		if got, fault := Read(text); fault != 0 || !slices.Equal(got, want) {
			t.Errorf("Read(%q) = %v, %d, want %v", text, got, fault, want)
		}
	}
}

func TestReadSorts(t *testing.T) {
	tokens, fault := Read("name 1 var list lin when at diff or ; : , = != <= .. [ ] + * ! -")
	if fault != 0 || len(tokens) != int(Minus-Name)+2 {
		t.Fatalf("%d tokens, fault %d", len(tokens), fault)
	}
	for i, got := range tokens[:len(tokens)-1] {
		if got.Sort != Name+Sort(i) {
			t.Errorf("%q is of the sort %d", got.Text, got.Sort)
		}
	}
}

func TestReadFaults(t *testing.T) {
	for text, line := range map[string]int{"A": 1, "a\n<": 2, "\n\n. .": 3, "abcdefghi": 1, "% $\n12345678901": 2, "a\r": 1, "<": 1, "...": 1} {
		if got, fault := Read(text); got != nil || fault != line {
			t.Errorf("Read(%q) = %v, %d, want line %d", text, got, fault, line)
		}
	}
}

func TestPlain(t *testing.T) {
	for text, want := range map[string]string{
		"":                      "",
		"list l=[01,1];":        "list l =[1, 1];\n",
		"lin 01*a- -1*b=1;or!a": "lin a - -1 * b = 1;\nor !a",
	} {
		tokens, _ := Read(text)
		if got := Plain(tokens); got != want {
			t.Errorf("Plain of %q = %q, want %q", text, got, want)
		}
	}
}
