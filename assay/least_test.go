package assay_test

import "slices"

// least draws the conclusions that must be drawn without weak, and no others: the values that are left of each variable, by its place.
type least struct {
	*drawn
	left [][]int
}

// leastNodes tells how many nodes a search by Given has that concludes no more than it must.
func (d *drawn) leastNodes() int {
	l := least{d, make([][]int, len(d.low))}
	for v := range l.left {
		for value := d.low[v]; value <= d.high[v]; value++ {
			l.left[v] = append(l.left[v], value)
		}
	}
	return l.nodes()
}

func (l least) nodes() int {
	if !l.conclude() {
		return 0
	}
	count := 1
	variable := slices.IndexFunc(l.left, func(values []int) bool { return len(values) > 1 })
	if variable < 0 {
		return count
	}
	for _, value := range l.left[variable] {
		next := least{l.drawn, slices.Clone(l.left)}
		next.left[variable] = []int{value}
		count += next.nodes()
	}
	return count
}

// conclude goes through all constraints till there is nothing more to conclude.
func (l least) conclude() bool {
	for changed := true; changed; {
		changed = false
		for _, c := range l.constraints {
			for place, v := range c.vars {
				kept := slices.DeleteFunc(slices.Clone(l.left[v]), func(value int) bool { return l.excludes(c, place, value) })
				changed = changed || len(kept) < len(l.left[v])
				l.left[v] = kept
				if len(kept) == 0 {
					return false
				}
			}
		}
	}
	return true
}

// excludes tells whether the variable at a place of a constraint must not keep a value.
func (l least) excludes(c drawnConstraint, place, value int) bool {
	if l.open(c) == 0 {
		return !c.alone.Suits(l.firsts())
	}
	switch c.sort {
	case "at":
		return l.atExcludes(c, place, value)
	case "diff":
		for other, v := range c.vars {
			if other != place && slices.Equal(l.left[v], []int{value}) {
				return true
			}
		}
		return false
	case "or":
		return !slices.ContainsFunc(l.trueLits(c), func(other int) bool { return other != place }) && value != c.wants[place]
	}
	return l.sumExcludes(c, place, value)
}

// open counts the variables of a constraint that have more than one value left, each as often as it stands there.
func (l least) open(c drawnConstraint) int {
	count := 0
	for _, v := range c.vars {
		if len(l.left[v]) > 1 {
			count++
		}
	}
	return count
}

func (l least) firsts() []int {
	values := make([]int, len(l.left))
	for v := range values {
		values[v] = l.left[v][0]
	}
	return values
}

// trueLits gives the places of the lits that may still be true.
func (l least) trueLits(c drawnConstraint) []int {
	var places []int
	for place, v := range c.vars {
		if slices.Contains(l.left[v], c.wants[place]) {
			places = append(places, place)
		}
	}
	return places
}

func (l least) atExcludes(c drawnConstraint, place, value int) bool {
	for i, number := range drawnList {
		if place == 0 && value == i+1 && slices.Contains(l.left[c.vars[1]], number) || place == 1 && value == number && slices.Contains(l.left[c.vars[0]], i+1) {
			return false
		}
	}
	return true
}

func (l least) sumExcludes(c drawnConstraint, place, value int) bool {
	variable := c.vars[place]
	truthOpen := c.sort == "when" && len(l.left[c.vars[len(c.vars)-1]]) > 1
	if truthOpen || l.open(c) > 1 || len(l.left[variable]) == 1 {
		return false
	}
	values := l.firsts()
	values[variable] = value
	return !c.alone.Suits(values)
}
