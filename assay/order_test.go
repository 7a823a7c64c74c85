package assay_test

import (
	"math/rand"
	"reflect"
	"slices"
	"testing"

	"assay/api"
	"assay/assay"
)

// tells asks for solutions in just this order, and for so many nodes.
func tells(t *testing.T, text string, order int, weak bool, want [][]int, nodes int) {
	t.Helper()
	r := solve(t, read(t, text), order, weak, 1000)
	if r.Ending != api.Complete || r.Nodes != nodes || !sameLists(r.Solutions, want) {
		t.Errorf("%q: order %d, weak %v: %v, %d nodes, ending %d, want %v, %d nodes", text, order, weak, r.Solutions, r.Nodes, r.Ending, want, nodes)
	}
}

func TestNarrowGoesByTheFewestValues(t *testing.T) {
	three := "var a: 0..2; var b: 0..1; var c: 5..5;"
	alike := "var a: 3..5; var b: 1..2; var c: 1..2;"
	for _, weak := range []bool{false, true} {
		tells(t, three, api.Narrow, weak, [][]int{{0, 0, 5}, {1, 0, 5}, {2, 0, 5}, {0, 1, 5}, {1, 1, 5}, {2, 1, 5}}, 1+2+6)
		tells(t, three, api.Given, weak, [][]int{{0, 0, 5}, {0, 1, 5}, {1, 0, 5}, {1, 1, 5}, {2, 0, 5}, {2, 1, 5}}, 1+3+6)
		// Of those alike, the first one.
		tells(t, alike, api.Narrow, weak, [][]int{
			{3, 1, 1}, {4, 1, 1}, {5, 1, 1}, {3, 1, 2}, {4, 1, 2}, {5, 1, 2},
			{3, 2, 1}, {4, 2, 1}, {5, 2, 1}, {3, 2, 2}, {4, 2, 2}, {5, 2, 2},
		}, 1+2+4+12)
	}
}

func TestNarrowGoesByWhatIsLeft(t *testing.T) {
	// c has the most values by its bounds, and fewer than a as soon as b is chosen.
	text := "var a: 0..2; var b: 1..2; var c: 1..9; lin c - b <= 0;"
	strong := [][]int{{0, 1, 1}, {1, 1, 1}, {2, 1, 1}, {0, 2, 1}, {1, 2, 1}, {2, 2, 1}, {0, 2, 2}, {1, 2, 2}, {2, 2, 2}}
	tells(t, text, api.Narrow, false, strong, 1+(1+3)+(1+2+6))
	weak := [][]int{{0, 1, 1}, {1, 1, 1}, {2, 1, 1}, {0, 2, 1}, {0, 2, 2}, {1, 2, 1}, {1, 2, 2}, {2, 2, 1}, {2, 2, 2}}
	tells(t, text, api.Narrow, true, weak, 1+(1+3+3)+(1+3+6))
	tells(t, text, api.Given, false, sorted(strong), 1+3*(1+1+1+2))
}

func TestGivenGoesByTheFirstValues(t *testing.T) {
	// The names and the bounds would have it otherwise.
	text := "var z: -1..1; var a: 0..9; var m: 0..1; lin a + z = 1; diff z, m;"
	for _, weak := range []bool{false, true} {
		r := solve(t, read(t, text), api.Given, weak, 1000)
		if want := [][]int{{-1, 2, 0}, {-1, 2, 1}, {0, 1, 1}, {1, 0, 0}}; !sameLists(r.Solutions, want) {
			t.Errorf("weak %v: %v, want %v", weak, r.Solutions, want)
		}
	}
}

func TestOrdersThatAreNone(t *testing.T) {
	random := rand.New(rand.NewSource(9))
	for range 300 {
		d := draw(t, random)
		budget := random.Intn(2*len(d.weakNodes()) + 1)
		eachWay(func(order int, weak bool) {
			if got, want := solve(t, d.model, order, weak, budget), d.model.Solve(api.Given, weak, budget); order != api.Narrow && !reflect.DeepEqual(got, want) {
				t.Errorf("%q: order %d, weak %v: %v, by Given %v", d.model.Text(), order, weak, got, want)
			}
		})
	}
	m := read(t, "var a: 0..2; var b: 0..1;")
	if reflect.DeepEqual(m.Solve(api.Narrow, false, 100), m.Solve(api.Given, false, 100)) {
		t.Error("Narrow is Given")
	}
}

func TestTheSameEachTime(t *testing.T) {
	random := rand.New(rand.NewSource(10))
	for range 300 {
		d := draw(t, random)
		again := read(t, d.model.Text())
		eachWay(func(order int, weak bool) {
			first := solve(t, d.model, order, weak, 10000)
			for _, m := range []*assay.Model{d.model, again} {
				if next := m.Solve(order, weak, 10000); !reflect.DeepEqual(first, next) {
					t.Errorf("%q: order %d, weak %v: %v, and then %v", d.model.Text(), order, weak, first, next)
				}
			}
		})
	}
}

func TestNarrowTellsEachSolutionOnce(t *testing.T) {
	m := read(t, "var a: 0..4; var b: 0..3; var c: 0..5; var d: 0..2; diff a, b, c, d; lin a + b - c - d <= 1;")
	want := sorted(solve(t, m, api.Given, true, 100000).Solutions)
	for _, weak := range []bool{false, true} {
		got := sorted(solve(t, m, api.Narrow, weak, 100000).Solutions)
		if len(slices.CompactFunc(slices.Clone(got), slices.Equal)) != len(got) || !sameLists(got, want) {
			t.Errorf("weak %v: %d solutions, want %d", weak, len(got), len(want))
		}
	}
}

func TestNarrowStopsAtTheMostSolutions(t *testing.T) {
	m := read(t, "var a: 1..1000; var b: 1..200; var c: 1..1000;")
	for _, weak := range []bool{false, true} {
		// Nodes: no choice; b; a up to 101; the solutions; the one too many.
		r := solve(t, m, api.Narrow, weak, 1000000)
		if r.Ending != api.Solutions || r.Nodes != 1+1+101+api.MaxSolutions+1 || !slices.Equal(r.Solutions[api.MaxSolutions-1], []int{100, 1, 1000}) {
			t.Errorf("weak %v: %d nodes, ending %d", weak, r.Nodes, r.Ending)
		}
	}
}
