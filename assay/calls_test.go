package assay_test

import (
	"math/rand"
	"slices"
	"strings"
	"testing"

	"assay/api"
	"assay/assay"
)

func TestAnswersAreNewMemory(t *testing.T) {
	m := read(t, "var a: 0..1; var b: 0..1; var c: 0..1;")
	names := m.Names()
	other := m.Names()
	whole := names[:cap(names)]
	for i := range whole {
		whole[i] = "?"
	}
	_ = append(names[:1], "??")
	want := []string{"a", "b", "c"}
	if !slices.Equal(other, want) || !slices.Equal(m.Names(), want) {
		t.Errorf("Names() = %q and %q", other, m.Names())
	}
}

func TestWhatIsHandedInStays(t *testing.T) {
	m := read(t, "var a: 0..2; var b: 0..2; diff a, b; lin a <= 1;")
	values := []int{1, 2, 7, 8}
	if !m.Suits(values[:2]) || !slices.Equal(values, []int{1, 2, 7, 8}) {
		t.Errorf("Suits made %v of it", values)
	}
	values[1] = 1
	if m.Suits(values[:2]) || !m.Suits([]int{1, 2}) {
		t.Error("Suits keeps values")
	}
}

func TestModelsKnowNothingOfOneAnother(t *testing.T) {
	first := read(t, "var a: 0..1; list l = [1]; lin a = 1;")
	second := read(t, "list a = [3]; var l: 2..5; at a[l] = l;")
	refuse(t, "lin a = 1;", api.Name, 1)
	third := read(t, "var a: 0..1; lin a = 0;")
	for range 2 {
		if first.Text() != "var a: 0..1;\nlist l =[1];\nlin a = 1;\n" || second.Names()[0] != "l" || third.Text() != "var a: 0..1;\nlin a = 0;\n" {
			t.Error("models share what they know")
		}
		if !first.Suits([]int{1}) || first.Suits([]int{0}) || !third.Suits([]int{0}) || third.Suits([]int{1}) || second.Suits([]int{3}) {
			t.Error("models share what suits")
		}
	}
}

// checkAnyText asks for what must hold of each text.
func checkAnyText(t *testing.T, text string) {
	t.Helper()
	m, kind, line := assay.New(text)
	if kind != api.Fine {
		lines := 1 + strings.Count(text, "\n")
		if m != nil || kind < api.Fine || kind > api.Truth || (kind == api.Long) != (line == 0) || line < 0 || line > lines {
			t.Errorf("New(%q) = %v, %d, %d", text, m, kind, line)
		}
		return
	}
	if m == nil || line != 0 {
		t.Fatalf("New(%q) = %v, %d, %d", text, m, kind, line)
	}
	plain := m.Text()
	if len(plain) <= api.MaxText {
		again := read(t, plain)
		if again.Text() != plain || !slices.Equal(again.Names(), m.Names()) {
			t.Errorf("the plain text %q of %q reads otherwise: %q", plain, text, again.Text())
		}
	}
	for count := range api.MaxVars + 2 {
		if m.Suits(make([]int, count)) && count != len(m.Names()) {
			t.Errorf("%q: Suits of %d noughts", text, count)
		}
	}
	for budget := range 3 {
		solve(t, m, api.Given, budget == 1, budget*budget*10)
	}
}

func TestAnyText(t *testing.T) {
	pieces := []string{
		"var a: 0..1;", "var b: -1..2;", "var c: 1..1;", "list l = [1, 2];", "lin a + 2 * b <= 1;", "when a: b != 01;", "at l[b] = a;", "diff a, b;", "or a, !a;", "or !c;",
		"var", "list", "lin", "when", "at", "diff", "or", "a", "b", "l", "abcdefgh", "abcdefghi", "0", "1", "-0", "-1", "1001", "1000001", "12345678901", ";", ":", ",", "=", "!=", "<=", "..", "[", "]", "+", "*", "!", "-", "<", ".", "% x\n", "\n", " ", "\t", "\r", "\x00", "\xff", "é",
	}
	random := rand.New(rand.NewSource(1))
	for range 50000 {
		var text strings.Builder
		whole := 10 + random.Intn(len(pieces)-9) // so that many texts are made of statements alone
		for range random.Intn(30) {
			text.WriteString(pieces[random.Intn(whole)])
			if random.Intn(2) == 0 {
				text.WriteByte(' ')
			}
		}
		checkAnyText(t, text.String())
	}
	for length := range 70 {
		bytes := make([]byte, length*30)
		for i := range bytes {
			bytes[i] = byte(random.Intn(256))
		}
		checkAnyText(t, string(bytes))
	}
}

func FuzzNew(f *testing.F) {
	f.Add("var a: 0..1; list l = [1, 2]; lin 2 * a != 1; when a: a <= 1; at l[a] = a; diff a; or !a, a;")
	f.Add(declared)
	f.Add("")
	f.Fuzz(checkAnyText)
}
