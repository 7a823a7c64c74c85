package assay_test

import (
	"math/rand"
	"slices"
	"strings"
	"testing"

	"assay/api"
	"assay/assay"
)

// steps is the document's grammar as a table: which token may stand next, and what stands open then. At "" nothing does.
var steps = map[string]map[string]string{
	"":     {"var": "var", "list": "list", "lin": "sum", "when": "when", "at": "at", "diff": "diff", "or": "or"},
	"var":  {"a": "var1"},
	"var1": {":": "var2"},
	"var2": {"7": "var3"},
	"var3": {"..": "var4"},
	"var4": {"7": "end"},

	"list":  {"a": "list1"},
	"list1": {"=": "list2"},
	"list2": {"[": "list3"},
	"list3": {"7": "list4"},
	"list4": {",": "list3", "]": "end"},

	"when":  {"a": "when1"},
	"when1": {":": "sum"},
	"sum":   {"7": "sum1", "a": "sum3"},
	"sum1":  {"*": "sum2"},
	"sum2":  {"a": "sum3"},
	"sum3":  {"+": "sum", "-": "sum", "=": "sum4", "!=": "sum4", "<=": "sum4"},
	"sum4":  {"7": "end"},

	"at":  {"a": "at1"},
	"at1": {"[": "at2"},
	"at2": {"a": "at3"},
	"at3": {"]": "at4"},
	"at4": {"=": "at5"},
	"at5": {"a": "end"},

	"diff":  {"a": "diff1"},
	"diff1": {",": "diff", ";": ""},

	"or":  {"!": "or1", "a": "or2"},
	"or1": {"a": "or2"},
	"or2": {",": "or", ";": ""},

	"end": {";": ""},
}

// all that there is of tokens: a stands for every name, 7 for every number.
var all = []string{"var", "list", "lin", "when", "at", "diff", "or", "a", "7", ";", ":", ",", "=", "!=", "<=", "..", "[", "]", "+", "*", "!", "-"}

// formLine is the line in which tokens, each on a line of its own, have a fault of form; 0 if they have none.
func formLine(tokens []string) int {
	open := ""
	for i, next := range tokens {
		then, ok := steps[open][next]
		if !ok {
			return i + 1
		}
		open = then
	}
	if open != "" {
		return len(tokens) + 1
	}
	return 0
}

func checkForm(t *testing.T, tokens []string) {
	t.Helper()
	text := strings.Join(tokens, "\n") + "\n"
	if line := formLine(tokens); line != 0 {
		refuse(t, text, api.Form, line)
	} else if _, kind, _ := assay.New(text); kind == api.Token || kind == api.Form {
		t.Errorf("New(%q) tells %d: the grammar has that", text, kind)
	}
}

// ways gives the shortest way to all that may stand open.
func ways() map[string][]string {
	found := map[string][]string{"": nil}
	for queue := []string{""}; len(queue) > 0; queue = queue[1:] {
		for _, next := range all {
			then, ok := steps[queue[0]][next]
			if _, known := found[then]; ok && !known {
				found[then] = append(slices.Clone(found[queue[0]]), next)
				queue = append(queue, then)
			}
		}
	}
	return found
}

func TestFormOfEachTokenEverywhere(t *testing.T) {
	found := ways()
	if len(found) != len(steps) {
		t.Fatalf("%d of %d are reached", len(found), len(steps))
	}
	for _, way := range found {
		checkForm(t, way)
		for _, next := range all {
			checkForm(t, append(slices.Clone(way), next))
			checkForm(t, append(slices.Clone(way), next, "lin", "a", "=", "7", ";"))
		}
	}
}

func TestFormOfLongWays(t *testing.T) {
	random := rand.New(rand.NewSource(1))
	for range 20000 {
		var tokens []string
		for open := ""; len(tokens) < 40; {
			var may []string
			for _, next := range all {
				if _, ok := steps[open][next]; ok {
					may = append(may, next)
				}
			}
			next := may[random.Intn(len(may))]
			if random.Intn(60) == 0 {
				next = all[random.Intn(len(all))]
			}
			tokens = append(tokens, next)
			open = steps[open][next] // what has no next step begins anew: the fault is told all the same
			if open == "" && random.Intn(4) == 0 {
				break
			}
		}
		checkForm(t, tokens)
	}
}

func TestFormFaults(t *testing.T) {
	for _, text := range []string{
		"@;", "@a ;", "@7 ;", "var @lin : 0 .. 1 ;", "var a @0 .. 1 ;", "var a : 0 .. @b ;", "var a : 0 @, 1 ;", "var a : 0 .. 1 @var",
		"list l = [ @] ;", "list l = [ 1 , @] ;", "list l = [ 1 @2 ] ;", "list l = [ @a ] ;", "lin @= 1 ;", "lin 2 @a = 1 ;", "lin 2 @= 1 ;", "lin a @2 = 1 ;", "lin a @-2 * b = 1 ;", "lin @- a = 1 ;", "lin a + @- b = 1 ;", "lin a = @a ;", "lin a @;", "lin 2 * @3 * a = 1 ;", "lin a @* 2 = 1 ;",
		"when a @a = 1 ;", "when @2 * a : a = 1 ;", "when a : @lin a = 1 ;", "at l [ @1 ] = y ;", "at l @= y ;", "at l [ x ] = @1 ;", "at l [ x ] @!= y ;", "diff @;", "diff a @b ;", "diff a , @;", "diff @! a ;", "or @;", "or ! @! a ;", "or a , @;", "or @2 ;", "lin a = 1 ; @;",
	} {
		refuseMarked(t, text, api.Form)
	}
}
