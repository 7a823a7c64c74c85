package assay_test

import (
	"slices"
	"strings"
	"testing"

	"assay/api"
)

// declared is what the texts below lean on: a and b may be behind when and or, n and x may not; l is a list.
const declared = "var a : 0 .. 1 ; var b : 0 .. 1 ; var n : -1 .. 1 ; var x : 0 .. 2 ; list l = [ 1 , 2 ] ; "

func TestNewNames(t *testing.T) {
	for text, want := range map[string][]string{
		"":                          {},
		" \t\n% nothing":            {},
		"list l = [1];":             {},
		"var b: 0..1;":              {"b"},
		"var b: 0..1; var a: 0..1;": {"b", "a"},
		"var z9: 0..1; list a = [1]; var eightchr: -5..-5; lin z9 = 1; var m: 0..0;": {"z9", "eightchr", "m"},
		"var vars: 0..1; var lis: 0..1; var o: 0..1; var ors: 0..1; var at1: 0..1;":  {"vars", "lis", "o", "ors", "at1"},
	} {
		if got := read(t, text).Names(); !slices.Equal(got, want) {
			t.Errorf("Names() of %q = %q, want %q", text, got, want)
		}
	}
}

func TestNewLong(t *testing.T) {
	fill := func(text string, bytes int) string { return text + strings.Repeat(" ", bytes-len(text)) }
	for _, text := range []string{"", "%", "var a: 0..1;", "\n\n"} {
		read(t, fill(text, api.MaxText))
		refuse(t, fill(text, api.MaxText+1), api.Long, 0)
	}
	read(t, "%"+strings.Repeat("é", (api.MaxText-1)/2))
	refuse(t, "%"+strings.Repeat("é", api.MaxText/2), api.Long, 0)
	for _, text := range []string{"A", "lin", "var a: 1..0;"} {
		refuse(t, fill(text, api.MaxText+1), api.Long, 0)
	}
}

func TestNewBytes(t *testing.T) {
	for b := range 256 {
		text := "\n" + string([]byte{byte(b)})
		switch {
		case strings.IndexByte(" \t\n%", byte(b)) >= 0:
			read(t, text)
		case strings.IndexByte("abcdefghijklmnopqrstuvwxyz0123456789;:,=[]+*!-", byte(b)) >= 0:
			refuse(t, text, api.Form, 2)
		default:
			refuse(t, text, api.Token, 2)
		}
		read(t, "% "+strings.ReplaceAll(text[1:], "\n", ""))
	}
}

func TestNewTokenFaults(t *testing.T) {
	for _, text := range []string{
		"var @ninechars : 0 .. 1 ;", "lin @a12345678 = 1 ;", "list @listlists = [ 1 ] ;", "@whenwhenw",
		"var a : @12345678901 .. 1 ;", "var a : @-1234567890 .. 1 ;", "var a : @00000000000 .. 1 ;", "list l = [ @-0000000000 ] ;",
		"lin a @< 1 ;", "lin a @< = 1 ;", "lin a @>= 1 ;", "lin a @<> 1 ;", "lin a == 1 ; lin @$", "var a : 0 @. . 1 ;", "var a : 0 @.", "var a : 0 @... 1 ;", "lin a @<",
		"var @A : 0 .. 1 ;", "var @aB : 0 .. 1 ;", "var @a_b : 0 .. 1 ;", "at l @( x ) = y ;", "var a : 0 .. 1 ; @\r", "@\x00", "@\"a\"", "@\xff", "@é",
	} {
		refuseMarked(t, text, api.Token)
	}
	refuse(t, "% one\n% two $\n $ % three", api.Token, 3)
	refuse(t, "var a: 0..1; $\n$", api.Token, 1)
}

func TestNewTokensAsLongAsCanBe(t *testing.T) {
	for _, text := range []string{
		"var a:0..1;lin-1*a<=-1;", "var a:0..1;lin a- -1*a!=-0;", "var a:0..1;lin a--1*a=1;", "var a:-1..-1;", "var a:-000000001..0000000001;", "var a%:\n:0..1;",
	} {
		read(t, text)
	}
	refuse(t, "var a: 0..1234567890;", api.Range, 1)
	refuse(t, "var a: -123456789..0;", api.Range, 1)
	refuse(t, "var a:0..1; lin a -1 * a = 0;", api.Form, 1)
	refuse(t, "var a:0..1; lin a - - 1 * a = 0;", api.Form, 1)
	refuse(t, "var a:0..1; lin a ! = 0;", api.Form, 1)
	refuse(t, "var a:0..1; or!a,a;or!=a;", api.Form, 1)
	refuse(t, "vara: 0..1;", api.Form, 1)
	refuse(t, "var a: - 1..1;", api.Form, 1)
	refuse(t, "var a: 0%..1;", api.Form, 1)
}

func TestNewTooEarlyAnEnd(t *testing.T) {
	for text, line := range map[string]int{
		"var": 1, "var a: 0..1": 1, "var a: 0..1; lin a": 1, "var\n": 2, "var a\n: 0\n..1\n\n": 5, "var a % x": 1, "var a % x\n": 2, "\n\nor a,": 3, "lin a = 1 % ;\n % ;": 2,
	} {
		refuse(t, text, api.Form, line)
	}
}

func TestNewNameFaults(t *testing.T) {
	for _, text := range []string{
		"var @a : 0 .. 1 ;", "list @a = [ 1 ] ;", "var @l : 0 .. 1 ;", "list @l = [ 1 ] ;", "var v : 0 .. 1 ; var @v : 0 .. 1 ;",
		"lin @u = 1 ;", "lin a + 2 * @u = 1 ;", "lin @l = 1 ;", "lin a - @l = 1 ;",
		"when @u : a = 1 ;", "when @l : a = 1 ;", "when a : @u = 1 ;", "when a : a + @l <= 1 ;",
		"at @u [ x ] = x ;", "at @x [ x ] = x ;", "at l [ @u ] = x ;", "at l [ @l ] = x ;", "at l [ x ] = @u ;", "at l [ x ] = @l ;",
		"diff @u ;", "diff a , @u ;", "diff a , b , @l ;", "or @u ;", "or ! @u ;", "or @l ;", "or a , ! @l ;",
		"lin a + @v = 1 ; var v : 0 .. 1 ;", "at @m [ x ] = x ; list m = [ 1 ] ;",
	} {
		refuseMarked(t, declared+text, api.Name)
	}
}

func TestNewRangeFaults(t *testing.T) {
	for _, text := range []string{
		"var v : 1 .. @0 ;", "var v : -4 .. @-5 ;", "var v : 1000 .. @-1000 ;",
		"var v : @-1001 .. 0 ;", "var v : @1001 .. 1002 ;", "var v : 0 .. @1001 ;", "var v : -5 .. @-1001 ;", "var v : 0 .. @9999999999 ;", "var v : @-999999999 .. 0 ;",
		"list m = [ @1001 ] ;", "list m = [ @-1001 ] ;", "list m = [ 1 , @1001 , 1002 ] ;",
		"lin @101 * a = 1 ;", "lin @-101 * a = 1 ;", "lin a - @-101 * a = 1 ;", "lin a - @101 * a = 1 ;", "when a : a + @101 * a = 1 ;",
		"lin a = @1000001 ;", "lin a != @-1000001 ;", "lin a <= @9999999999 ;", "when a : a = @1000001 ;", "when a : x <= @-1000001 ;",
	} {
		refuseMarked(t, declared+text, api.Range)
	}
	for _, text := range []string{
		"var v: -1000..1000;", "var v: -1000..-1000;", "var v: 1000..1000;", "var v: 5..5;", "list m = [-1000, 1000, 1000];",
		"lin 100 * a - 100 * a + -100 * b - -100 * b = 1;", "when a: -100 * x + 100 * x = 1;", "lin 0 * a = 0;",
		"lin a = 1000000;", "lin a <= -1000000;", "when a: a != 1000000;", "when a: a = -1000000;",
	} {
		read(t, declared+text)
	}
}

func TestNewTruthFaults(t *testing.T) {
	for _, text := range []string{
		"when @n : a = 1 ;", "when @x : a = 1 ;", "or @n ;", "or @x ;", "or ! @x ;", "or a , ! b , @n ;", "var v : 2 .. 2 ; or @v ;", "var v : -1 .. 0 ; or ! @v ;", "var v : -5 .. -5 ; when @v : a = 1 ;",
	} {
		refuseMarked(t, declared+text, api.Truth)
	}
	read(t, "var a: 0..1; var b: 0..0; var c: 1..1; or a, b, !c; when a: c = 1; when b: a = 1; when c: b = 1;")
}

// TestNewManyFaults has for each limit a text at it, and one beyond it.
func TestNewManyFaults(t *testing.T) {
	eight := "var a : 0 .. 1 ; var b : 0 .. 1 ; var c : 0 .. 1 ; var d : 0 .. 1 ; var e : 0 .. 1 ; var f : 0 .. 1 ; var g : 0 .. 1 ; var h : 0 .. 1 ; "
	ones := times("1", api.MaxList, " , ")
	terms := times("a", api.MaxTerms, " + ")
	names := times("a", api.MaxVars, " , ")
	for _, c := range []struct{ most, more string }{
		{eight, "var @i : 0 .. 1 ;"},
		{eight + "list l = [ 1 ] ; list m = [ 1 ] ; lin a = 1 ;", "var @i : 0 .. 1 ;"},
		{declared + "list m = [ " + ones, ", @1 ] ;"},
		{declared + "lin " + terms, "+ @a = 1 ;"},
		{declared + "lin " + terms, "- @2 * a = 1 ;"},
		{declared + "when a : " + terms, "+ @a = 1 ;"},
		{declared + "when a : " + terms, "+ @-1 * a = 1 ;"},
		{declared + "diff " + names, ", @a ;"},
		{declared + "or " + names, ", @a ;"},
		{declared + "or " + names, ", @! a ;"},
	} {
		refuseMarked(t, c.most+c.more, api.Many)
	}
	for _, text := range []string{
		eight, eight + "list i = [1]; list j = [1];", declared + "list m = [" + ones + "]; list k = [" + ones + "];",
		declared + "lin " + terms + " = 1; lin " + terms + " = 1;", declared + "when a: " + terms + " = 1;",
		declared + "diff " + names + "; diff " + names + ";", declared + "or " + names + "; or !" + names + ";",
	} {
		read(t, text)
	}
}

func TestNewManyConstraints(t *testing.T) {
	sorts := []string{"lin a = 1 ; ", "when a : a = 1 ; ", "at l [ x ] = x ; ", "diff a ; ", "or a ; "}
	for _, s := range sorts {
		full := declared + strings.Repeat(s, api.MaxConstraints)
		read(t, full)
		read(t, full+"var v : 0 .. 1 ; list m = [ 1 ] ;")
		for _, last := range sorts {
			refuseMarked(t, full+"@"+last, api.Many)
			refuseMarked(t, full+"list m = [ 1 ] ; @"+last, api.Many)
		}
	}
	mixed := declared + strings.Repeat(strings.Join(sorts, ""), 3)
	read(t, mixed+sorts[0])
	refuseMarked(t, mixed+sorts[0]+"@"+sorts[1], api.Many)
}

func TestNewWhichFaultGoesAhead(t *testing.T) {
	eight := times("a", api.MaxVars, " , ")
	vars := "var a : 0 .. 0 ; var b : 0 .. 0 ; var c : 0 .. 0 ; var d : 0 .. 0 ; var e : 0 .. 0 ; var f : 0 .. 0 ; var g : 0 .. 0 ; var h : 0 .. 0 ; "
	for _, c := range []struct {
		text string
		kind api.Kind
	}{
		// a Token anywhere ahead of a Form, a Form anywhere ahead of the rest
		{"; ; lin x = 1 ; @$", api.Token}, {"var a : 1 .. 0 ; @ninechars", api.Token}, {"lin u = 1 ; or a b @12345678901 $", api.Token},
		{"lin u = 1 ; var a : 1 .. 0 ; lin @;", api.Form}, {vars + "var i : 0 .. 1 ; diff a @b ;", api.Form}, {"var a : 0 .. 2 ; or a ; or @2 ;", api.Form}, {"lin @= ; lin ;", api.Form},
		// of the faults of sense, the first
		{"var a : 5 .. @4 ; lin u = 1 ;", api.Range}, {"lin @u = 1 ; var a : 5 .. 4 ;", api.Name}, {declared + "or @n ; lin u = 1 ;", api.Truth},
		{declared + "lin @101 * u = 1000001 ;", api.Range}, {declared + "lin 100 * @u = 1000001 ;", api.Name}, {declared + "lin @u + 101 * a = 1 ;", api.Name}, {declared + "when @n : u = 1 ;", api.Truth}, {declared + "when @u : 101 * a = 1 ;", api.Name},
		{declared + "var @a : 1001 .. 5 ;", api.Name}, {declared + "list @a = [ 1001 ] ;", api.Name}, {"var a : @1001 .. 0 ;", api.Range}, {declared + "at @a [ u ] = l ;", api.Name}, {declared + "or @n , u ;", api.Truth}, {declared + "or @u , n ;", api.Name},
		{declared + "lin @101 * a + " + times("a", api.MaxTerms, " + ") + " = 1 ;", api.Range}, {declared + "diff " + eight + " , @u , u ;", api.Many}, {declared + "diff @u , " + eight + " ;", api.Name},
		// of one token, Many ahead of Name, Range and Truth
		{vars + "var @a : 1 .. 0 ;", api.Many}, {"list l = [ " + times("1", api.MaxList, " , ") + " , @1001 ] ;", api.Many},
		{declared + "lin " + times("a", api.MaxTerms, " + ") + " + @u = 1 ;", api.Many}, {declared + "lin " + times("a", api.MaxTerms, " + ") + " + @101 * u = 1 ;", api.Many}, {declared + "when a : " + times("a", api.MaxTerms, " + ") + " - @l = 1 ;", api.Many},
		{declared + "or " + eight + " , @u ;", api.Many}, {declared + "or " + eight + " , @n ;", api.Many}, {declared + "or " + eight + " , @! n ;", api.Many}, {declared + strings.Repeat("diff a ; ", api.MaxConstraints) + "@when u : u = 1 ;", api.Many},
		// and Name ahead of Truth
		{declared + "when @l : a = 1 ;", api.Name}, {declared + "or ! @l ;", api.Name},
	} {
		refuseMarked(t, c.text, c.kind)
	}
}

func TestNewExamples(t *testing.T) {
	for text, kind := range map[string]api.Kind{
		"var a: 1..0;": api.Range, "lin x = 1;": api.Name, "var a 0..1;": api.Form, "var A: 0..1;": api.Token, "var a: 0..2; or a;": api.Truth,
	} {
		refuse(t, text, kind, 1)
	}
}
