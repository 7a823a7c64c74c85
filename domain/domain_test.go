package domain

import (
	"math"
	"slices"
	"testing"

	"assay/api"
)

// listed gives the numbers from low to high that are values.
func listed(low, high int) []int {
	var all []int
	for v := max(low, -api.MaxValue); v <= min(high, api.MaxValue); v++ {
		all = append(all, v)
	}
	return all
}

func TestBetween(t *testing.T) {
	edges := []int{math.MinInt / 2, -2000, -1001, -1000, -999, -938, -937, -936, -935, -1, 0, 1, 22, 23, 24, 25, 64, 998, 999, 1000, 1001, 1047, 1048, 5000, math.MaxInt / 2}
	for _, low := range edges {
		for _, high := range edges {
			if got, want := slices.Collect(Between(low, high).All()), listed(low, high); !slices.Equal(got, want) {
				t.Errorf("Between(%d, %d) has %v", low, high, got)
			}
		}
	}
}

func TestOnly(t *testing.T) {
	for v := -api.MaxValue; v <= api.MaxValue; v++ {
		d := Only(v)
		if one, is := d.One(); !is || one != v || d != Between(v, v) {
			t.Errorf("Only(%d) has %v", v, slices.Collect(d.All()))
		}
	}
}

func TestOne(t *testing.T) {
	for _, d := range []Domain{{}, Between(-1000, 1000), Between(3, 4), Between(-1000, 1000).Without(Between(-999, 999)), Between(-937, -936)} {
		if v, is := d.One(); is {
			t.Errorf("%v has one value alone: %d", slices.Collect(d.All()), v)
		}
	}
}

func TestWithAndHas(t *testing.T) {
	var d Domain
	var values []int
	for v := -api.MaxValue; v <= api.MaxValue; v += 37 {
		if d.Has(v) {
			t.Errorf("%d is there ahead of its time", v)
		}
		was := d
		d = d.With(v)
		if !d.Has(v) || was.Has(v) || d.With(v) != d || d.Without(Only(v)) != was {
			t.Errorf("With(%d) makes %v of %v", v, slices.Collect(d.All()), slices.Collect(was.All()))
		}
		values = append(values, v)
	}
	if !slices.Equal(slices.Collect(d.All()), values) {
		t.Errorf("the set has %v, want %v", slices.Collect(d.All()), values)
	}
	for _, v := range []int{-1000, -937, -936, 0, 999, 1000} {
		if all := Between(-1000, 1000); !all.Has(v) || all.Without(Only(v)).Has(v) {
			t.Errorf("Has(%d) is wrong", v)
		}
	}
}

func TestCount(t *testing.T) {
	for _, c := range []struct {
		set  Domain
		want int
	}{{Domain{}, 0}, {Only(-1000), 1}, {Only(1000), 1}, {Between(-1000, 1000), 2001}, {Between(-70, 70), 141}, {Only(-1000).With(1000).With(3), 3}} {
		if got := c.set.Count(); got != c.want {
			t.Errorf("%v are %d values, want %d", slices.Collect(c.set.All()), got, c.want)
		}
	}
}

func TestAndWithout(t *testing.T) {
	first, second := Between(-500, 300), Between(-20, 700)
	if first.And(second) != Between(-20, 300) || second.And(first) != Between(-20, 300) {
		t.Error("And does not give what both have")
	}
	if first.Without(second) != Between(-500, -21) || second.Without(first) != Between(301, 700) {
		t.Error("Without does not give what one alone has")
	}
	if first.And(Domain{}) != (Domain{}) || first.Without(first) != (Domain{}) || first.Without(Domain{}) != first {
		t.Error("the empty set is not empty")
	}
	if first != Between(-500, 300) || second != Between(-20, 700) {
		t.Error("a set changes that is only asked")
	}
}

func TestAllGoesThroughWhatWasThere(t *testing.T) {
	d := Between(-3, 3)
	var got []int
	for v := range d.All() {
		d = Only(0)
		got = append(got, v)
		if v == 2 {
			break
		}
	}
	if !slices.Equal(got, []int{-3, -2, -1, 0, 1, 2}) {
		t.Errorf("All went through %v", got)
	}
}
