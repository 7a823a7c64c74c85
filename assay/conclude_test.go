package assay_test

import (
	"math/rand"
	"slices"
	"strings"
	"testing"

	"assay/api"
)

// conclusion is a model, what suits it, and how many nodes are counted without weak and with it, by Given.
type conclusion struct {
	text         string
	want         [][]int
	strong, weak int
}

func check(t *testing.T, all []conclusion) {
	t.Helper()
	for _, c := range all {
		m := read(t, c.text)
		finds(t, m, c.want)
		for weak, nodes := range map[bool]int{false: c.strong, true: c.weak} {
			if r := solve(t, m, api.Given, weak, 10000); r.Nodes != nodes {
				t.Errorf("%q: weak %v: %d nodes, want %d", c.text, weak, r.Nodes, nodes)
			}
		}
		// With no choice to make, all orders count the same nodes.
		if r := solve(t, m, api.Narrow, false, 10000); c.strong <= 1 && r.Nodes != c.strong {
			t.Errorf("%q: by Narrow %d nodes, want %d", c.text, r.Nodes, c.strong)
		}
	}
}

func TestConclusionsOfLin(t *testing.T) {
	check(t, []conclusion{
		{"var a: 2..2; var b: -9..9; lin 3*a + 2*b = 0;", [][]int{{2, -3}}, 1, 2},
		{"var a: 2..2; var b: -9..9; lin 3*a + 2*b = 1;", nil, 0, 1},
		{"var a: 2..2; var b: -9..9; lin 3*a - 2*b = 100;", nil, 0, 1},
		{"var a: 1..1; var b: 0..9; lin b - a <= -1;", [][]int{{1, 0}}, 1, 2},
		{"var a: 4..4; var b: 0..9; lin a - b <= -5;", [][]int{{4, 9}}, 1, 2},
		{"var a: 4..4; var b: 0..9; lin a - b <= -6;", nil, 0, 1},
		{"var a: 4..4; var b: 3..4; lin a - b != 0;", [][]int{{4, 3}}, 1, 2},
		{"var a: 0..9; lin 2*a <= 5;", [][]int{{0}, {1}, {2}}, 4, 4},
		{"var a: -3..3; lin -2*a <= -5;", [][]int{{3}}, 1, 2},
		{"var a: -3..3; lin 2*a <= -5;", [][]int{{-3}}, 1, 2},
		{"var a: 0..2; lin a != 1;", [][]int{{0}, {2}}, 3, 3},
		{"var a: 0..2; lin a != 3;", [][]int{{0}, {1}, {2}}, 4, 4},
		{"var a: 0..2; lin 0*a = 1;", nil, 0, 1},
		{"var a: 0..2; lin 0*a = 0;", [][]int{{0}, {1}, {2}}, 4, 4},
		{"var a: 0..2; lin 0*a != 0;", nil, 0, 1},
		{"var a: -1000..1000; var b: 1000..1000; lin -100*b - 100*a = -200000;", [][]int{{1000, 1000}}, 1, 2},
		{"var a: -1000..1000; var b: -1000..-1000; lin 100*a + 100*b <= -200000;", [][]int{{-1000, -1000}}, 1, 2},
		// Two are open first, and then one.
		{"var a: 0..3; var b: 0..3; lin a + b = 5;", [][]int{{2, 3}, {3, 2}}, 3, 7},
		{"var a: 0..3; var b: 0..3; var c: 1..1; lin a + b - 5*c = 0;", [][]int{{2, 3, 1}, {3, 2, 1}}, 3, 7},
	})
}

func TestConclusionsOfWhen(t *testing.T) {
	check(t, []conclusion{
		{"var p: 1..1; var b: 0..9; when p: 2*b = 6;", [][]int{{1, 3}}, 1, 2},
		{"var p: 1..1; var b: 0..9; when p: 2*b = 7;", nil, 0, 1},
		{"var p: 1..1; var b: 0..1; when p: b != 0;", [][]int{{1, 1}}, 1, 2},
		{"var p: 1..1; var b: 0..9; when p: b <= 0;", [][]int{{1, 0}}, 1, 2},
		{"var p: 0..0; var b: 0..1; when p: b = 0;", [][]int{{0, 1}}, 1, 2},
		{"var p: 0..0; var b: 0..9; when p: 3*b != 6;", [][]int{{0, 2}}, 1, 2},
		{"var p: 0..0; var b: 0..9; when p: 3*b != 7;", nil, 0, 1},
		{"var p: 0..0; var b: 0..9; when p: b <= 8;", [][]int{{0, 9}}, 1, 2},
		{"var p: 0..0; var b: 0..9; when p: -1*b <= -1;", [][]int{{0, 0}}, 1, 2},
		{"var p: 0..0; var b: 0..9; when p: b <= 9;", nil, 0, 1},
		// The truth stands in its own sum.
		{"var p: 1..1; var b: 0..9; when p: p + b = 3;", [][]int{{1, 2}}, 1, 2},
		{"var p: 0..0; var b: 0..1; when p: p + b = 0;", [][]int{{0, 1}}, 1, 2},
		// The truth is known by another constraint, one way or the other.
		{"var p: 0..1; var b: 0..9; when p: b <= 0; or p;", [][]int{{1, 0}}, 1, 3},
		{"var p: 0..1; var b: 0..9; when p: b <= 8; or !p;", [][]int{{0, 9}}, 1, 3},
		// The truth is chosen.
		{"var p: 0..1; var b: 0..4; when p: b = 4;", [][]int{{0, 0}, {0, 1}, {0, 2}, {0, 3}, {1, 4}}, 7, 8},
	})
	finds(t, read(t, "var p: 0..1; when p: p = 1;"), [][]int{{0}, {1}})
	finds(t, read(t, "var p: 0..1; when p: p = 0;"), nil)
	finds(t, read(t, "var b: 3..5; var p: 0..1; when p: b <= 4;"), [][]int{{3, 1}, {4, 1}, {5, 0}})
}

func TestConclusionsOfDiff(t *testing.T) {
	check(t, []conclusion{
		{"var a: 2..2; var b: 2..3; diff a, b;", [][]int{{2, 3}}, 1, 2},
		{"var a: 2..3; var b: 2..2; diff a, b;", [][]int{{3, 2}}, 1, 2},
		{"var a: -1..1; var b: -1..-1; var c: 1..1; diff a, b, c;", [][]int{{0, -1, 1}}, 1, 2},
		{"var a: 1..1; var b: 1..2; var c: 1..2; diff a, b, c;", nil, 0, 3},
		{"var a: 1..1; var b: 1..1; var c: 1..2; diff a, b, c;", nil, 0, 1},
		{"var a: 1..4; var b: 1..3; var c: 1..2; var d: 1..1; diff a, b, c, d;", [][]int{{4, 3, 2, 1}}, 1, 1 + 4 + 12 + 1},
		{"var a: 0..2; var b: 0..2; diff a, b;", [][]int{{0, 1}, {0, 2}, {1, 0}, {1, 2}, {2, 0}, {2, 1}}, 10, 10},
		{"var a: 3..3; diff a;", [][]int{{3}}, 1, 1},
		{"var a: 3..4; diff a;", [][]int{{3}, {4}}, 3, 3},
	})
}

func TestConclusionsOfOr(t *testing.T) {
	check(t, []conclusion{
		{"var a: 0..1; or a;", [][]int{{1}}, 1, 2},
		{"var a: 0..1; or !a;", [][]int{{0}}, 1, 2},
		{"var a: 0..1; or a, a;", [][]int{{1}}, 1, 2},
		{"var a: 0..0; var b: 0..1; or a, b;", [][]int{{0, 1}}, 1, 2},
		{"var a: 0..1; var b: 1..1; or !a, !b;", [][]int{{0, 1}}, 1, 2},
		{"var a: 0..0; var b: 0..1; var c: 1..1; or !c, b, a;", [][]int{{0, 1, 1}}, 1, 2},
		{"var a: 0..0; or a;", nil, 0, 0},
		{"var a: 1..1; var b: 0..0; or !a, b;", nil, 0, 0},
		{"var a: 0..1; or a; or !a;", nil, 0, 1},
		// Another lit is true already, or may be.
		{"var a: 1..1; var b: 0..1; or a, b;", [][]int{{1, 0}, {1, 1}}, 3, 3},
		{"var a: 0..1; or a, !a;", [][]int{{0}, {1}}, 3, 3},
		{"var a: 0..1; var b: 0..1; or a, b, a;", [][]int{{0, 1}, {1, 0}, {1, 1}}, 5, 6},
		{"var a: 0..0; var b: 0..1; var c: 0..1; or !a, b, c;", [][]int{{0, 0, 0}, {0, 0, 1}, {0, 1, 0}, {0, 1, 1}}, 7, 7},
	})
}

func TestConclusionsOfAt(t *testing.T) {
	check(t, []conclusion{
		{"list l = [4, 5, 6]; var x: -9..9; var y: 5..5; at l[x] = y;", [][]int{{2, 5}}, 1, 2},
		{"list l = [4, 5, 6]; var x: 3..3; var y: -9..9; at l[x] = y;", [][]int{{3, 6}}, 1, 2},
		{"list l = [4, 5, 6]; var x: 3..9; var y: 0..9; at l[x] = y;", [][]int{{3, 6}}, 1, 9},
		{"list l = [4, 5, 6]; var x: -9..1; var y: 0..9; at l[x] = y;", [][]int{{1, 4}}, 1, 13},
		{"list l = [4, 5, 6]; var x: 4..9; var y: 0..9; at l[x] = y;", nil, 0, 7},
		{"list l = [4, 5, 6]; var x: -9..0; var y: 0..9; at l[x] = y;", nil, 0, 11},
		{"list l = [4, 5, 6]; var x: 1..3; var y: 7..9; at l[x] = y;", nil, 0, 4},
		{"list l = [4, 9, 6]; var x: 1..3; var y: 5..8; at l[x] = y;", [][]int{{3, 6}}, 1, 5},
		{"list l = [7, 7, 7]; var x: 1..3; var y: 0..9; at l[x] = y;", [][]int{{1, 7}, {2, 7}, {3, 7}}, 4, 7},
		{"list l = [1000, -1000]; var x: -1000..1000; var y: -1000..-999; at l[x] = y;", [][]int{{2, -1000}}, 1, 1 + 2001 + 1},
		// Both keep what the other one has, and no more.
		{"list l = [4, 9, 6, 4]; var x: 0..9; var y: 0..8; at l[x] = y;", [][]int{{1, 4}, {3, 6}, {4, 4}}, 4, 1 + 10 + 3},
		{"list l = [4, 9, 6, 4]; var x: 2..3; var y: 0..9; at l[x] = y;", [][]int{{2, 9}, {3, 6}}, 3, 1 + 2 + 2},
		// The place is the number that stands there.
		{"list l = [2, 2, 1]; var x: 0..9; at l[x] = x;", [][]int{{2}}, 1, 2},
		{"list l = [2, 3, 4]; var x: 0..9; at l[x] = x;", nil, 0, 1},
	})
	finds(t, read(t, "list l = [2, 1, 3]; var x: 0..9; at l[x] = x;"), [][]int{{3}})
}

func TestAVariableThatStandsTwice(t *testing.T) {
	finds(t, read(t, "var a: 0..9; lin a + a = 6;"), [][]int{{3}})
	finds(t, read(t, "var a: 0..9; lin a + a = 7;"), nil)
	finds(t, read(t, "var a: 0..3; var b: 1..1; lin 2*a - b - 2*a = -1;"), [][]int{{0, 1}, {1, 1}, {2, 1}, {3, 1}})
	finds(t, read(t, "var a: 0..3; lin a - a != 0;"), nil)
	finds(t, read(t, "var p: 1..1; var a: -3..3; when p: 3*a - a <= -5;"), [][]int{{1, -3}})
	finds(t, read(t, "var p: 0..0; var a: -3..3; when p: 3*a - a <= 4;"), [][]int{{0, 3}})
	for _, text := range []string{"var a: 1..3; diff a, a;", "var a: 1..3; var b: 1..1; diff a, b, a;", "var b: 5..9; var a: 1..2; diff a, b, a;", "var a: 1..1; diff a, a;", "var a: 1..1; var b: 1..9; diff a, b, a;"} {
		finds(t, read(t, text), nil)
	}
}

// TestConclusionsOfConclusions: each sort follows of another one's, whatever the order of the statements.
func TestConclusionsOfConclusions(t *testing.T) {
	head := "list l = [3, 1]; var x: 2..2; var y: 0..9; var p: 0..1; var q: 0..1; var z: 0..9; var w: 0..2; "
	chain := []string{"at l[x] = y; ", "lin y - p = 1; ", "or p, q; ", "when q: z + y = 2; ", "diff z, p, w; "}
	random := rand.New(rand.NewSource(7))
	for range 20 {
		text := head + strings.Join(chain, "")
		check(t, []conclusion{{text, [][]int{{2, 1, 0, 1, 1, 2}}, 1, solve(t, read(t, text), api.Given, true, 100000).Nodes}})
		random.Shuffle(len(chain), func(i, k int) { chain[i], chain[k] = chain[k], chain[i] })
	}
	// The other way round: of a place's numbers there follows a truth.
	check(t, []conclusion{
		{"list l = [0, 5, 0]; var d: 1..1; var x: 1..2; var y: 0..9; var b: 0..1; diff x, d; at l[x] = y; lin y + b <= 5;", [][]int{{1, 2, 5, 0}}, 1, 1 + 1 + 1 + 1},
		{"list l = [0, 5, 0]; var d: 1..1; var x: 1..2; var y: 0..9; var b: 0..1; lin y + b <= 4; at l[x] = y; diff x, d;", nil, 0, 1 + 1 + 1},
	})
}

func TestAllIsConcludedThatMustBe(t *testing.T) {
	random := rand.New(rand.NewSource(8))
	fewer := 0
	for range 3000 {
		d := draw(t, random)
		most, weak := d.leastNodes(), len(d.weakNodes())
		r := solve(t, d.model, api.Given, false, most)
		if r.Ending != api.Complete {
			t.Errorf("%q: more than %d nodes: not all is concluded that must be", d.model.Text(), most)
		}
		if !slices.EqualFunc(r.Solutions, d.suiting(), slices.Equal) {
			t.Errorf("%q: %v", d.model.Text(), r.Solutions)
		}
		if r.Nodes < weak {
			fewer++
		}
	}
	if fewer < 1000 {
		t.Errorf("conclusions saved nodes in %d models alone", fewer)
	}
}
