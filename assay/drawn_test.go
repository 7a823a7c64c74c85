package assay_test

import (
	"math/rand"
	"slices"
	"strconv"
	"strings"
	"testing"

	"assay/assay"
)

// drawn is a small model that was made at random: its variables are a, b, c and so on.
type drawn struct {
	head        string
	constraints []drawnConstraint
	low, high   []int
	model       *assay.Model
}

// drawnList is the list l of every drawn model.
var drawnList = []int{2, -1, 0, 2}

type drawnConstraint struct {
	sort  string // its keyword
	text  string
	vars  []int        // by their places; that of the truth is the last one
	wants []int        // of or: the value that makes the lit at each place true
	alone *assay.Model // the model with this constraint and no other
}

func name(variable int) string { return string(rune('a' + variable)) }

func draw(t *testing.T, random *rand.Rand) *drawn {
	t.Helper()
	d := &drawn{head: "list l = [" + joined(drawnList, strconv.Itoa) + "];"}
	for v := range random.Intn(5) {
		low, high := 0, 1
		if v >= 2 || random.Intn(3) == 0 {
			low = random.Intn(4) - 2
			high = low + random.Intn(5)
		}
		d.low, d.high = append(d.low, low), append(d.high, high)
		d.head += " var " + name(v) + ": " + strconv.Itoa(low) + ".." + strconv.Itoa(high) + ";"
	}
	text := d.head
	for range random.Intn(5) {
		if len(d.low) > 0 {
			c := d.constraint(random)
			c.alone = read(t, d.head+c.text)
			d.constraints = append(d.constraints, c)
			text += c.text
		}
	}
	d.model = read(t, text)
	return d
}

// truths gives the variables that may stand where a truth is asked for.
func (d *drawn) truths() []int {
	var all []int
	for v := range d.low {
		if d.low[v] >= 0 && d.high[v] <= 1 {
			all = append(all, v)
		}
	}
	return all
}

// some draws one to so many of the variables.
func some(random *rand.Rand, from []int, most int) []int {
	all := make([]int, 1+random.Intn(most))
	for i := range all {
		all[i] = from[random.Intn(len(from))]
	}
	return all
}

func (d *drawn) constraint(random *rand.Rand) drawnConstraint {
	vars := make([]int, len(d.low))
	for v := range vars {
		vars[v] = v
	}
	truths := d.truths()
	sort := random.Intn(6)
	if len(truths) == 0 {
		sort = random.Intn(4)
	}
	switch sort {
	case 0:
		two := []int{vars[random.Intn(len(vars))], vars[random.Intn(len(vars))]}
		return drawnConstraint{sort: "at", text: " at l[" + name(two[0]) + "] = " + name(two[1]) + ";", vars: two}
	case 1:
		all := some(random, vars, 3)
		return drawnConstraint{sort: "diff", text: " diff " + joined(all, func(v int) string { return name(v) }) + ";", vars: all}
	case 4:
		return drawnOr(random, some(random, truths, 3))
	case 5:
		all, truth := some(random, vars, 3), truths[random.Intn(len(truths))]
		return drawnConstraint{sort: "when", text: " when " + name(truth) + ":" + sum(random, all), vars: append(all, truth)}
	}
	all := some(random, vars, 4)
	return drawnConstraint{sort: "lin", text: " lin" + sum(random, all), vars: all}
}

func drawnOr(random *rand.Rand, vars []int) drawnConstraint {
	c := drawnConstraint{sort: "or", vars: vars}
	c.text = " or " + joined(vars, func(v int) string {
		want := random.Intn(2)
		c.wants = append(c.wants, want)
		return []string{"!", ""}[want] + name(v)
	}) + ";"
	return c
}

func joined(numbers []int, write func(v int) string) string {
	pieces := make([]string, len(numbers))
	for i, v := range numbers {
		pieces[i] = write(v)
	}
	return strings.Join(pieces, ", ")
}

func sum(random *rand.Rand, vars []int) string {
	text := ""
	for i, v := range vars {
		if i > 0 {
			text += []string{" +", " -"}[random.Intn(2)]
		}
		text += " "
		if random.Intn(2) == 0 {
			text += strconv.Itoa(random.Intn(7)-3) + " * "
		}
		text += name(v)
	}
	return text + []string{" = ", " != ", " <= "}[random.Intn(3)] + strconv.Itoa(random.Intn(9)-4) + ";"
}

// product tells how many assignments there are.
func (d *drawn) product() int {
	p := 1
	for v := range d.low {
		p *= 1 + d.high[v] - d.low[v]
	}
	return p
}

// suiting gives all assignments that suit, in their order.
func (d *drawn) suiting() [][]int {
	var all [][]int
	d.eachFrom(slices.Clone(d.low), 0, func(values []int) {
		if d.model.Suits(values) {
			all = append(all, slices.Clone(values))
		}
	})
	return all
}

func (d *drawn) eachFrom(values []int, variable int, do func(values []int)) {
	if variable == len(values) {
		do(values)
		return
	}
	for v := d.low[variable]; v <= d.high[variable]; v++ {
		values[variable] = v
		d.eachFrom(values, variable+1, do)
	}
}

// weakNodes goes the way that a weak search must go, and tells of each node on it whether it is a solution.
func (d *drawn) weakNodes() []bool {
	var nodes []bool
	values := slices.Clone(d.low)
	var enter func(known int)
	enter = func(known int) {
		for known < len(values) && d.low[known] == d.high[known] {
			known++
		}
		if d.contradicts(values, known) {
			return
		}
		nodes = append(nodes, known == len(values))
		if known == len(values) {
			return
		}
		for v := d.low[known]; v <= d.high[known]; v++ {
			values[known] = v
			enter(known + 1)
		}
		values[known] = d.low[known]
	}
	enter(0)
	return nodes
}

// contradicts tells whether there is a constraint that does not suit, all its variables being among the first so many or having one value alone.
func (d *drawn) contradicts(values []int, known int) bool {
	return slices.ContainsFunc(d.constraints, func(c drawnConstraint) bool {
		open := slices.ContainsFunc(c.vars, func(v int) bool { return v >= known && d.low[v] < d.high[v] })
		return !open && !c.alone.Suits(values)
	})
}
