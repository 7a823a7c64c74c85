package assay_test

import (
	"math"
	"slices"
	"testing"

	"assay/assay"
)

// eachList hands all lists of so many numbers from low to high to a function.
func eachList(count, low, high int, do func(values []int)) {
	values := make([]int, count)
	var fill func(place int)
	fill = func(place int) {
		if place == count {
			do(values)
			return
		}
		for v := low; v <= high; v++ {
			values[place] = v
			fill(place + 1)
		}
	}
	fill(0)
}

func TestSuitsOfEachSort(t *testing.T) {
	const bits, small = "var a: 0..1; var b: 0..1; var c: 0..1; ", "var a: -2..3; var b: -2..3; var c: -2..3; "
	for _, c := range []struct {
		text      string
		low, high int
		suits     func(a, b, c int) bool
	}{
		{small, -2, 3, func(a, b, c int) bool { return true }},
		{small + "lin a = 2;", -2, 3, func(a, b, c int) bool { return a == 2 }},
		{small + "lin a != 2;", -2, 3, func(a, b, c int) bool { return a != 2 }},
		{small + "lin a <= 2;", -2, 3, func(a, b, c int) bool { return a <= 2 }},
		{small + "lin b - c = -1;", -2, 3, func(a, b, c int) bool { return b-c == -1 }},
		{small + "lin 3 * a - 2 * b + -4 * c <= 1;", -2, 3, func(a, b, c int) bool { return 3*a-2*b-4*c <= 1 }},
		{small + "lin a - -2 * b - 0 * c != 3;", -2, 3, func(a, b, c int) bool { return a+2*b != 3 }},
		{small + "lin a + a - b + a = 4;", -2, 3, func(a, b, c int) bool { return 3*a-b == 4 }},
		{small + "lin a - a = 0;", -2, 3, func(a, b, c int) bool { return true }},
		{small + "lin a <= 1; lin b != 0; lin a - c = 0;", -2, 3, func(a, b, c int) bool { return a <= 1 && b != 0 && a == c }},
		{bits + "when a: b + c = 1;", 0, 1, func(a, b, c int) bool { return (a == 1) == (b+c == 1) }},
		{bits + "when c: a - b != 0;", 0, 1, func(a, b, c int) bool { return (c == 1) == (a != b) }},
		{bits + "when b: 2 * a + 3 * c <= 2;", 0, 1, func(a, b, c int) bool { return (b == 1) == (2*a+3*c <= 2) }},
		{bits + "when a: a = 0;", 0, 1, func(a, b, c int) bool { return false }},
		{bits + "when a: a = 1;", 0, 1, func(a, b, c int) bool { return true }},
		{small + "diff a, b, c;", -2, 3, func(a, b, c int) bool { return a != b && b != c && a != c }},
		{small + "diff a, c;", -2, 3, func(a, b, c int) bool { return a != c }},
		{small + "diff b;", -2, 3, func(a, b, c int) bool { return true }},
		{small + "diff b, a, b;", -2, 3, func(a, b, c int) bool { return false }},
		{bits + "or a, b, c;", 0, 1, func(a, b, c int) bool { return a == 1 || b == 1 || c == 1 }},
		{bits + "or !a, b, !c;", 0, 1, func(a, b, c int) bool { return a == 0 || b == 1 || c == 0 }},
		{bits + "or b;", 0, 1, func(a, b, c int) bool { return b == 1 }},
		{bits + "or !b;", 0, 1, func(a, b, c int) bool { return b == 0 }},
		{bits + "or b, !b;", 0, 1, func(a, b, c int) bool { return true }},
		{bits + "or a, a; or !a, b; or !c, !c;", 0, 1, func(a, b, c int) bool { return a == 1 && b == 1 && c == 0 }},
		{"list l = [1, -2, 3]; " + small + "at l[a] = b;", -2, 3, func(a, b, c int) bool {
			return a == 1 && b == 1 || a == 2 && b == -2 || a == 3 && b == 3
		}},
		{"list k = [2]; list l = [-1, 2]; " + small + "at l[c] = c; at k[a] = b;", -2, 3, func(a, b, c int) bool { return c == 2 && a == 1 && b == 2 }},
	} {
		m := read(t, c.text)
		eachList(3, c.low-1, c.high+1, func(v []int) {
			within := slices.Min(v) >= c.low && slices.Max(v) <= c.high
			want := within && c.suits(v[0], v[1], v[2])
			if got := m.Suits(v); got != want {
				t.Errorf("%q: Suits(%v) = %v", c.text, v, got)
			}
		})
	}
}

func TestSuitsAsksForEachBound(t *testing.T) {
	m := read(t, "var a: -1000..1000; var b: 5..5; var c: -3..-2;")
	for _, c := range []struct {
		values []int
		suits  bool
	}{
		{[]int{-1000, 5, -3}, true}, {[]int{1000, 5, -2}, true}, {[]int{-1001, 5, -3}, false}, {[]int{1001, 5, -3}, false},
		{[]int{0, 4, -3}, false}, {[]int{0, 6, -3}, false}, {[]int{0, 5, -4}, false}, {[]int{0, 5, -1}, false},
		{nil, false}, {[]int{}, false}, {[]int{0, 5}, false}, {[]int{0, 5, -3, 0}, false}, {make([]int, 100000), false},
		{[]int{math.MaxInt, 5, -3}, false}, {[]int{math.MinInt, 5, -3}, false}, {[]int{0, math.MaxInt, math.MinInt}, false},
	} {
		if m.Suits(c.values) != c.suits {
			t.Errorf("Suits(%.20v) = %v", c.values, !c.suits)
		}
	}
}

func TestSuitsWhereASumWouldWrapRound(t *testing.T) {
	m := read(t, "var a: 0..1; var b: 0..1; lin 4 * a + 4 * b = 0;")
	for _, values := range [][]int{{1 << 62, 0}, {math.MinInt, 0}, {1 << 61, 1 << 61}, {math.MinInt, math.MinInt}} {
		if m.Suits(values) {
			t.Errorf("Suits(%v)", values)
		}
	}
}

func TestSuitsAtTheGreatestSums(t *testing.T) {
	const text = "var a: -1000..1000; lin "
	sum := times("100 * a", 8, " + ")
	for _, c := range []struct {
		rest  string
		value int
		suits bool
	}{
		{" = 800000;", 1000, true}, {" = 800000;", 999, false}, {" = -800000;", -1000, true}, {" <= -799999;", -1000, true}, {" <= -800001;", -1000, false}, {" != 1000000;", 1000, true}, {" = -1000000;", -1000, false},
	} {
		if got := read(t, text+sum+c.rest).Suits([]int{c.value}); got != c.suits {
			t.Errorf("the sum%s Suits(%d) = %v", c.rest, c.value, got)
		}
	}
}

func TestSuitsOfTheLongestList(t *testing.T) {
	m := read(t, "list l = ["+times("4", 19, ", ")+", 6]; var x: -1000..1000; var y: 0..9; at l[x] = y;")
	for x := -1000; x <= 1000; x++ {
		for y := range 10 {
			want := 1 <= x && x <= 19 && y == 4 || x == 20 && y == 6
			if m.Suits([]int{x, y}) != want {
				t.Errorf("Suits(%d, %d) = %v", x, y, !want)
			}
		}
	}
}

func TestSuitsOfModelsWithoutVariables(t *testing.T) {
	for _, text := range []string{"", "list l = [1];", "% nothing"} {
		m := read(t, text)
		if !m.Suits(nil) || !m.Suits([]int{}) || m.Suits([]int{0}) {
			t.Errorf("%q: the empty assignment alone suits", text)
		}
	}
}

// found gives all lists of so many small values that suit.
func found(m *assay.Model, count int) [][]int {
	var all [][]int
	eachList(count, -6, 6, func(values []int) {
		if m.Suits(values) {
			all = append(all, slices.Clone(values))
		}
	})
	return all
}

func TestSuitsInTheExamples(t *testing.T) {
	for text, want := range map[string][][]int{
		"var a: 0 .. 2; var b: 0..2;\nlin a + 2*b <= 3; % not both 2, and not 2 and 1\nlin a != 1;\n": {{0, 0}, {0, 1}, {2, 0}},
		"list l = [1, -2]; var x: 0..3; var y: -5..5; at l[x] = y;":                                   {{1, 1}, {2, -2}},
		"var b: 0..1; var x: 1..3; when b: 2*x - x <= 2;":                                             {{0, 3}, {1, 1}, {1, 2}},
	} {
		if got := found(read(t, text), 2); !slices.EqualFunc(got, want, slices.Equal) {
			t.Errorf("%q: %v suit, want %v", text, got, want)
		}
	}
}
