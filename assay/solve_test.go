package assay_test

import (
	"math"
	"math/rand"
	"reflect"
	"slices"
	"sync"
	"testing"

	"assay/api"
	"assay/assay"
)

var orders = []int{api.Given, api.Narrow, 2, -1, math.MaxInt, math.MinInt}

// solve asks for what must hold of each answer.
func solve(t *testing.T, m *assay.Model, order int, weak bool, budget int) api.Result {
	t.Helper()
	r := m.Solve(order, weak, budget)
	if r.Nodes < 0 || r.Nodes > max(budget, 0) || r.Ending == api.Budget && r.Nodes != max(budget, 0) {
		t.Fatalf("%q: budget %d: ending %d, %d nodes", m.Text(), budget, r.Ending, r.Nodes)
	}
	if r.Ending < api.Complete || r.Ending > api.Solutions || len(r.Solutions) > api.MaxSolutions || r.Ending == api.Solutions && len(r.Solutions) != api.MaxSolutions {
		t.Fatalf("%q: ending %d, %d solutions", m.Text(), r.Ending, len(r.Solutions))
	}
	for i, values := range r.Solutions {
		if !m.Suits(values) {
			t.Fatalf("%q: the solution %v does not suit", m.Text(), values)
		}
		if order != api.Narrow && i > 0 && slices.Compare(r.Solutions[i-1], values) >= 0 {
			t.Fatalf("%q: the solution %v is told behind %v", m.Text(), values, r.Solutions[i-1])
		}
	}
	return r
}

// eachWay hands all kinds of searches to a function.
func eachWay(do func(order int, weak bool)) {
	for _, order := range orders {
		do(order, false)
		do(order, true)
	}
}

func sameLists(first, second [][]int) bool { return slices.EqualFunc(first, second, slices.Equal) }

// sorted brings solutions into the order of Given.
func sorted(solutions [][]int) [][]int {
	return slices.SortedFunc(slices.Values(solutions), slices.Compare)
}

// finds asks for all that suits, whatever order and weak are.
func finds(t *testing.T, m *assay.Model, want [][]int) {
	t.Helper()
	eachWay(func(order int, weak bool) {
		t.Helper()
		r := solve(t, m, order, weak, 1000000)
		if got := sorted(r.Solutions); r.Ending != api.Complete || !sameLists(got, want) {
			t.Errorf("%q: order %d, weak %v: %v, ending %d, want %v", m.Text(), order, weak, got, r.Ending, want)
		}
	})
}

func TestSolveExamples(t *testing.T) {
	for text, want := range map[string][][]int{
		"var a: 0 .. 2; var b: 0..2;\nlin a + 2*b <= 3; % not both 2, and not 2 and 1\nlin a != 1;\n": {{0, 0}, {0, 1}, {2, 0}},
		"list l = [1, -2]; var x: 0..3; var y: -5..5; at l[x] = y;":                                   {{1, 1}, {2, -2}},
		"var b: 0..1; var x: 1..3; when b: 2*x - x <= 2;":                                             {{0, 3}, {1, 1}, {1, 2}},
		"":                                      {{}},
		"list l = [1];":                         {{}},
		"var a: 7..7;":                          {{7}},
		"var z: 0..1; var a: -1..0; diff a, z;": {{0, -1}, {1, -1}, {1, 0}},
		"var a: 0..1; var b: 0..1; var c: 0..1; or a, b; or !a, c; or !b, !c; when c: a - b = 0; when b: c != 1;": {{0, 1, 0}},
		"var a: -1000..1000; lin 100 * a = -100000;":                                                              {{-1000}},
		"var a: -1000..1000; lin -100 * a = -100000;":                                                             {{1000}},
		"var a: -1000..1000; var b: -1000..-999; lin a - b <= -1998; lin b + a != -2000;":                         {},
		"var a: -1000..1000; var b: -1000..-999; lin b - a <= -1998;":                                             {{998, -1000}, {999, -1000}, {999, -999}, {1000, -1000}, {1000, -999}},
	} {
		finds(t, read(t, text), want)
	}
}

func TestSolveFindsAllThatSuits(t *testing.T) {
	random := rand.New(rand.NewSource(2))
	for range 1500 {
		d := draw(t, random)
		finds(t, d.model, d.suiting())
	}
}

func TestSolveOfManyVariables(t *testing.T) {
	m := read(t, "var a: 1..8; var b: 1..8; var c: 1..8; var d: 1..8; var e: 1..8; var f: 1..8; var g: 1..8; var h: 8..8; diff a, b, c, d, e, f, g, h; lin a - b <= -1; lin b - c <= -1; lin c - d <= -1; lin d - e <= -1; lin e - f <= -1; lin f - g <= -1;")
	finds(t, m, [][]int{{1, 2, 3, 4, 5, 6, 7, 8}})
}

func TestNodesOfWeakSearches(t *testing.T) {
	random := rand.New(rand.NewSource(3))
	for range 1500 {
		d := draw(t, random)
		nodes := d.weakNodes()
		r := solve(t, d.model, api.Given, true, len(nodes)+1)
		if r.Ending != api.Complete || r.Nodes != len(nodes) {
			t.Errorf("%q: %d nodes, ending %d, want %d nodes", d.model.Text(), r.Nodes, r.Ending, len(nodes))
		}
		if strong := solve(t, d.model, api.Given, false, len(nodes)); strong.Ending != api.Complete {
			t.Errorf("%q: with more conclusions there are more nodes than %d", d.model.Text(), len(nodes))
		}
	}
}

func TestNodes(t *testing.T) {
	for _, c := range []struct {
		text  string
		weak  bool
		nodes int
	}{
		{"", true, 1}, {"", false, 1}, {"list l = [1];", false, 1},
		{"var a: 3..3; var b: 4..4;", true, 1},
		{"var a: 3..3; var b: 4..4; diff a, b;", true, 1},
		{"var a: 3..3; var b: 3..3; diff a, b;", true, 0}, {"var a: 3..3; var b: 3..3; diff a, b;", false, 0},
		{"var a: 3..3; lin a = 4;", true, 0}, {"var a: 3..3; lin a = 4;", false, 0},
		{"var a: 1..5;", true, 6}, {"var a: 1..5;", false, 6},
		{"var a: 1..5; lin a = 4;", true, 2}, {"var a: 1..5; lin a = 4;", false, 1},
		{"var a: 1..5; lin a = 6;", true, 1}, {"var a: 1..5; lin a = 6;", false, 0},
		{"var a: 0..2; var b: 0..2; lin a + 2*b <= 3; lin a != 1;", true, 6},
		{"var a: 0..1; var b: 0..1; var c: 0..1;", true, 15},
		{"var a: 0..1; var b: 0..2; lin a - b = 0;", false, 3}, {"var a: 0..1; var b: 0..2; lin a - b = 0;", true, 5},
	} {
		r := solve(t, read(t, c.text), api.Given, c.weak, 1000)
		if r.Ending != api.Complete || r.Nodes != c.nodes {
			t.Errorf("%q: weak %v: %d nodes, ending %d, want %d nodes", c.text, c.weak, r.Nodes, r.Ending, c.nodes)
		}
	}
}

func TestBudgetOfWeakSearches(t *testing.T) {
	random := rand.New(rand.NewSource(4))
	for range 200 {
		d := draw(t, random)
		nodes, all := d.weakNodes(), d.suiting()
		told := 0
		for budget := range len(nodes) + 2 {
			if budget > 0 && budget <= len(nodes) && nodes[budget-1] {
				told++
			}
			want := api.Result{Solutions: all[:told], Ending: api.Budget, Nodes: budget}
			if budget >= len(nodes) {
				want.Ending, want.Nodes = api.Complete, len(nodes)
			}
			r := solve(t, d.model, api.Given, true, budget)
			if r.Ending != want.Ending || r.Nodes != want.Nodes || !sameLists(r.Solutions, want.Solutions) {
				t.Errorf("%q: budget %d: %v, want %v", d.model.Text(), budget, r, want)
			}
		}
	}
}

func TestALesserBudgetStopsOnTheSameWay(t *testing.T) {
	random := rand.New(rand.NewSource(5))
	for range 50 {
		d := draw(t, random)
		eachWay(func(order int, weak bool) {
			all := solve(t, d.model, order, weak, math.MaxInt)
			told := 0
			for budget := range all.Nodes + 2 {
				r := solve(t, d.model, order, weak, budget)
				count := len(r.Solutions)
				if r.Nodes != min(budget, all.Nodes) || (r.Ending == api.Budget) != (budget < all.Nodes) {
					t.Errorf("%q: budget %d of %d: %d nodes, ending %d", d.model.Text(), budget, all.Nodes, r.Nodes, r.Ending)
				}
				if count > len(all.Solutions) || !sameLists(r.Solutions, all.Solutions[:count]) || count != told && count != told+1 {
					t.Errorf("%q: budget %d: %v, behind %d of %v", d.model.Text(), budget, r.Solutions, told, all.Solutions)
				}
				told = count
			}
		})
	}
}

func TestBudgetsBelowOne(t *testing.T) {
	for _, budget := range []int{0, -1, -1000, math.MinInt, math.MinInt + 1} {
		for _, text := range []string{"", "var a: 0..1;", "var a: 3..3; lin a = 3;"} {
			eachWay(func(order int, weak bool) {
				if r := solve(t, read(t, text), order, weak, budget); r.Ending != api.Budget || r.Nodes != 0 || len(r.Solutions) != 0 {
					t.Errorf("%q: budget %d: %v", text, budget, r)
				}
			})
		}
		// Where the first conclusions contradict there is no node to count, and so none too many.
		eachWay(func(order int, weak bool) {
			if r := solve(t, read(t, "var a: 3..3; var b: 0..9; lin a = 4;"), order, weak, budget); r.Ending != api.Complete || r.Nodes != 0 || len(r.Solutions) != 0 {
				t.Errorf("budget %d of nothing: %v", budget, r)
			}
		})
	}
}

func TestTheGreatestBudgets(t *testing.T) {
	m := read(t, "var a: 0..3; var b: 0..3; lin a - b <= -1;")
	want := solve(t, m, api.Given, true, 1000)
	for _, budget := range []int{math.MaxInt, math.MaxInt - 1, math.MaxInt32 + 1} {
		if got := solve(t, m, api.Given, true, budget); !reflect.DeepEqual(got, want) || got.Ending != api.Complete || len(got.Solutions) != 6 {
			t.Errorf("budget %d: %v, want %v", budget, got, want)
		}
	}
}

func TestBudgetThatIsAlwaysEnough(t *testing.T) {
	random := rand.New(rand.NewSource(6))
	for range 1500 {
		d := draw(t, random)
		enough := 2*len(d.low)*d.product() + 1
		eachWay(func(order int, weak bool) {
			if r := solve(t, d.model, order, weak, enough); r.Ending != api.Complete {
				t.Errorf("%q: order %d, weak %v: ending %d with a budget of %d", d.model.Text(), order, weak, r.Ending, enough)
			}
		})
	}
	eight := "var a: 0..1; var b: 0..1; var c: 0..1; var d: 0..1; var e: 0..1; var f: 0..1; var g: 0..1; var h: 0..1;"
	for text, enough := range map[string]int{"": 1, "var a: 5..5;": 3, "var a: 1..2;": 5, "var a: -1000..1000;": 2*2001 + 1, eight: 2*8*256 + 1, "var a: 1..1; var b: 1..1; var c: 0..1;": 2*3*2 + 1} {
		eachWay(func(order int, weak bool) {
			if r := solve(t, read(t, text), order, weak, enough); r.Ending != api.Complete {
				t.Errorf("%q: ending %d with a budget of %d", text, r.Ending, enough)
			}
		})
	}
}

func TestJustAsManySolutionsAsMayBe(t *testing.T) {
	m := read(t, "var a: 1..1000; var b: -49..50;")
	for _, weak := range []bool{false, true} {
		r := solve(t, m, api.Given, weak, math.MaxInt)
		if r.Ending != api.Complete || len(r.Solutions) != api.MaxSolutions || r.Nodes != 1+1000+100000 {
			t.Errorf("weak %v: %d solutions, %d nodes, ending %d", weak, len(r.Solutions), r.Nodes, r.Ending)
		}
	}
}

func TestManyMoreSolutionsThanMayBe(t *testing.T) {
	m := read(t, "var a: 1..1000; var b: 1..200; var c: 1..1000;")
	// Nodes: no choice; a; b up to 101; the solutions; the one too many.
	want := 1 + 1 + 101 + api.MaxSolutions + 1
	for _, weak := range []bool{false, true} {
		r := solve(t, m, api.Given, weak, math.MaxInt)
		if r.Ending != api.Solutions || r.Nodes != want || !slices.Equal(r.Solutions[api.MaxSolutions-1], []int{1, 100, 1000}) {
			t.Errorf("weak %v: %d nodes, ending %d, want %d nodes", weak, r.Nodes, r.Ending, want)
		}
	}
}

func TestOneSolutionMoreThanMayBe(t *testing.T) {
	// Both are 0 or none is: 1 + 1000 * 100 solutions.
	m := read(t, "var a: 0..1000; var b: 0..100; var p: 0..1; when p: a = 0; when p: b = 0;")
	for _, weak := range []bool{false, true} {
		r := solve(t, m, api.Given, weak, math.MaxInt)
		last := []int{1000, 99, 0}
		if r.Ending != api.Solutions || len(r.Solutions) != api.MaxSolutions || !slices.Equal(r.Solutions[api.MaxSolutions-1], last) {
			t.Fatalf("weak %v: %d solutions, ending %d, want %d up to %v", weak, len(r.Solutions), r.Ending, api.MaxSolutions, last)
		}
		if again := solve(t, m, api.Given, weak, r.Nodes); !reflect.DeepEqual(again, r) {
			t.Errorf("weak %v: a budget of just as many nodes ends with %d, %d nodes", weak, again.Ending, again.Nodes)
		}
		if less := solve(t, m, api.Given, weak, r.Nodes-1); less.Ending != api.Budget || !sameLists(less.Solutions, r.Solutions) {
			t.Errorf("weak %v: a budget of one node fewer ends with %d, %d solutions", weak, less.Ending, len(less.Solutions))
		}
	}
}

func TestSolutionsAreNewMemory(t *testing.T) {
	m := read(t, "var a: 0..2; var b: 0..2; var c: 0..2; diff a, b, c;")
	other := m.Solve(api.Given, false, 1000)
	want := [][]int{{0, 1, 2}, {0, 2, 1}, {1, 0, 2}, {1, 2, 0}, {2, 0, 1}, {2, 1, 0}}
	spoiled := m.Solve(api.Given, false, 1000).Solutions
	for i, list := range spoiled {
		for later := i + 1; later < len(spoiled); later++ {
			if !slices.Equal(spoiled[later], want[later]) {
				t.Fatalf("what is done to one list is seen in another: %v", spoiled)
			}
		}
		whole := list[:cap(list)]
		for k := range whole {
			whole[k] = -9
		}
	}
	whole := spoiled[:cap(spoiled)]
	for i := range whole {
		whole[i] = nil
	}
	if !sameLists(other.Solutions, want) || !sameLists(m.Solve(api.Given, false, 1000).Solutions, want) {
		t.Error("what is done to an answer is seen in another")
	}
}

func TestSolveChangesNothing(t *testing.T) {
	m := read(t, "var a: 0..4; var b: 0..4; var c: 0..1; list l = [3, 2, 1]; at l[a] = b; when c: a - b <= 0; or !c, c; diff a, b;")
	text, names := m.Text(), m.Names()
	want := map[bool]api.Result{false: m.Solve(api.Given, false, 10000), true: m.Solve(api.Given, true, 10000)}
	var group sync.WaitGroup
	for range 8 {
		group.Go(func() {
			for budget := range 20 {
				m.Solve(api.Narrow, budget%2 == 0, budget)
				for weak, r := range want {
					if got := m.Solve(api.Given, weak, 10000); !reflect.DeepEqual(got, r) {
						t.Errorf("weak %v: %v, and first %v", weak, got, r)
					}
				}
			}
		})
	}
	group.Wait()
	if m.Text() != text || !slices.Equal(m.Names(), names) || !sameLists(want[false].Solutions, [][]int{{1, 3, 1}, {3, 1, 0}}) {
		t.Errorf("%q, %v: %v", m.Text(), m.Names(), want[false])
	}
}

func TestSolveOfTheGreatestModelEnds(t *testing.T) {
	text := ""
	for v := range api.MaxVars {
		text += "var " + name(v) + ": -1000..1000; "
	}
	for _, rest := range []string{
		"", times("lin 100*a + 100*b - 100*c + 100*d + e + f + g + h = 1;", api.MaxConstraints, ""), times("diff a, b, c, d, e, f, g, h;", api.MaxConstraints, ""),
		"lin 100*a + 100*b + 100*c + 100*d + 100*e + 100*f + 100*g + 100*h = 1000000;", "list l = [" + times("-1000", api.MaxList, ", ") + "]; at l[h] = a; at l[a] = h;",
	} {
		m := read(t, text+rest)
		eachWay(func(order int, weak bool) { solve(t, m, order, weak, 60) })
	}
}
