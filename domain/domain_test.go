package domain

import (
	"math"
	"slices"
	"testing"

	"assay/api"
)

// listed gives the numbers from low to high that are values.
func listed(low, high int) []int {
	var all []int
	for v := max(low, -api.MaxValue); v <= min(high, api.MaxValue); v++ {
		all = append(all, v)
	}
	return all
}

func TestBetween(t *testing.T) {
	edges := []int{math.MinInt / 2, -2000, -1001, -1000, -999, -938, -937, -936, -935, -1, 0, 1, 22, 23, 24, 25, 64, 998, 999, 1000, 1001, 1047, 1048, 5000, math.MaxInt / 2}
	for _, low := range edges {
		for _, high := range edges {
			if got, want := slices.Collect(Between(low, high).All()), listed(low, high); !slices.Equal(got, want) {
				t.Errorf("Between(%d, %d) has %v", low, high, got)
			}
		}
	}
}

func TestOnly(t *testing.T) {
	for v := -api.MaxValue; v <= api.MaxValue; v++ {
		d := Only(v)
		if one, is := d.One(); !is || one != v || d != Between(v, v) {
			t.Errorf("Only(%d) has %v", v, slices.Collect(d.All()))
		}
	}
}

func TestOne(t *testing.T) {
	for _, d := range []Domain{{}, Between(-1000, 1000), Between(3, 4), Between(-1000, 1000).Without(Between(-999, 999)), Between(-937, -936)} {
		if v, is := d.One(); is {
			t.Errorf("%v has one value alone: %d", slices.Collect(d.All()), v)
		}
	}
}

func TestAndWithout(t *testing.T) {
	first, second := Between(-500, 300), Between(-20, 700)
	if first.And(second) != Between(-20, 300) || second.And(first) != Between(-20, 300) {
		t.Error("And does not give what both have")
	}
	if first.Without(second) != Between(-500, -21) || second.Without(first) != Between(301, 700) {
		t.Error("Without does not give what one alone has")
	}
	if first.And(Domain{}) != (Domain{}) || first.Without(first) != (Domain{}) || first.Without(Domain{}) != first {
		t.Error("the empty set is not empty")
	}
	if first != Between(-500, 300) || second != Between(-20, 700) {
		t.Error("a set changes that is only asked")
	}
}

func TestAllGoesThroughWhatWasThere(t *testing.T) {
	d := Between(-3, 3)
	var got []int
	for v := range d.All() {
		d = Only(0)
		got = append(got, v)
		if v == 2 {
			break
		}
	}
	if !slices.Equal(got, []int{-3, -2, -1, 0, 1, 2}) {
		t.Errorf("All went through %v", got)
	}
}
