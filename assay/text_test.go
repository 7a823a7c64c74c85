package assay_test

import (
	"fmt"
	"testing"

	"assay/api"
)

func TestTextIsPlain(t *testing.T) {
	vars := "var a: 0..1;\nvar b: 0..1;\nlist l =[1];\n"
	for text, want := range map[string]string{
		"":                         "",
		" \t\n% nothing; at all\n": "",

		"var a:0..2;":                                "var a: 0..2;\n",
		"var\ta  :\n-3%x\n..\n-1 ;":                  "var a: -3..-1;\n",
		"var a:-0..-00;":                             "var a: 0..0;\n",
		"var a:-0010..000010;":                       "var a: -10..10;\n",
		"var b: 1..1; var a: 1..1; list c = [1];":    "var b: 1..1;\nvar a: 1..1;\nlist c =[1];\n",
		"list l=[1];":                                "list l =[1];\n",
		"list l = [ 007 ,-0,-01 , 1000 , -1000 ] ;":  "list l =[7, 0, -1, 1000, -1000];\n",
		vars + "lin a=1;":                            vars + "lin a = 1;\n",
		vars + "lin a+b-a!=-1;":                      vars + "lin a + b - a != -1;\n",
		vars + "lin 2*a+03*b - 4*a<=-0;":             vars + "lin 2 * a + 3 * b - 4 * a <= 0;\n",
		vars + "lin 1*a+001*b- 1*a=1;":               vars + "lin a + b - a = 1;\n",
		vars + "lin -1*a+-01*b- -1*a=01;":            vars + "lin -1 * a + -1 * b - -1 * a = 1;\n",
		vars + "lin 0*a--0*b+10*b+11*a+100*a=1;":     vars + "lin 0 * a - 0 * b + 10 * b + 11 * a + 100 * a = 1;\n",
		vars + "lin 1*a=1;lin a=1;":                  vars + "lin a = 1;\nlin a = 1;\n",
		vars + "when a:1*b<=1;":                      vars + "when a: b <= 1;\n",
		vars + "when\na :\n2 * b - 1 * a !=\n-0100;": vars + "when a: 2 * b - a != -100;\n",
		vars + "at l [ a ]=b ;":                      vars + "at l[a] = b;\n",
		vars + "diff a;diff a ,b,a;":                 vars + "diff a;\ndiff a, b, a;\n",
		vars + "or a;or ! a,b , !b;or!a;":            vars + "or a;\nor !a, b, !b;\nor !a;\n",
		vars + "lin a=1; var c:0..1; diff a,c;":      vars + "lin a = 1;\nvar c: 0..1;\ndiff a, c;\n",
	} {
		if got := read(t, text).Text(); got != want {
			t.Errorf("Text() of %q = %q, want %q", text, got, want)
		}
		if got := read(t, want).Text(); got != want {
			t.Errorf("Text() of the plain text %q = %q", want, got)
		}
	}
}

// lists declares 100 lists; the plain text of each has 20 bytes.
func lists(numbers string) (text, plain string) {
	for i := range 100 {
		text += fmt.Sprintf("list listno%02d=[%s];", i, numbers)
		plain += fmt.Sprintf("list listno%02d =[%s];\n", i, numbers)
	}
	return text, plain
}

func TestTextAtMaxText(t *testing.T) {
	text, plain := lists("1")
	if len(plain) != api.MaxText {
		t.Fatalf("a plain text of %d bytes", len(plain))
	}
	for _, s := range []string{text, plain} {
		if got := read(t, s).Text(); got != plain {
			t.Errorf("Text() of %q = %q", s, got)
		}
	}
}

func TestTextBeyondMaxText(t *testing.T) {
	text, plain := lists("10")
	if got := read(t, text).Text(); got != plain {
		t.Errorf("Text() = %q, want %q", got, plain)
	}
	refuse(t, plain, api.Long, 0)
}
