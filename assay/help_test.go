package assay_test

import (
	"strings"
	"testing"

	"assay/api"
	"assay/assay"
)

// read gives the model of a text that must have no fault.
func read(t *testing.T, text string) *assay.Model {
	t.Helper()
	m, kind, line := assay.New(text)
	if m == nil || kind != api.Fine || line != 0 {
		t.Fatalf("New(%q) = %v, %d, %d, want a model, Fine and 0", text, m, kind, line)
	}
	return m
}

// refuse asks for a fault.
func refuse(t *testing.T, text string, kind api.Kind, line int) {
	t.Helper()
	m, k, l := assay.New(text)
	if m != nil || k != kind || l != line {
		t.Errorf("New(%q) = %v, %d, %d, want nil, %d, %d", text, m, k, l, kind, line)
	}
}

// lay puts each piece of a text on a line of its own, so that a line tells a token, and gives the line of the piece that is marked by @ (0 if none is).
func lay(text string) (string, int) {
	pieces := strings.FieldsFunc(text, func(r rune) bool { return r == ' ' })
	marked := 0
	for i, p := range pieces {
		if strings.HasPrefix(p, "@") {
			pieces[i] = p[1:]
			marked = i + 1
		}
	}
	return strings.Join(pieces, "\n"), marked
}

// refuseMarked asks for a fault in the line of the piece that is marked by @.
func refuseMarked(t *testing.T, text string, kind api.Kind) {
	t.Helper()
	laid, line := lay(text)
	if line == 0 {
		t.Fatalf("nothing is marked in %q", text)
	}
	refuse(t, laid, kind, line)
}

// times writes a piece so often, with something between.
func times(piece string, count int, between string) string {
	return strings.Repeat(piece+between, count-1) + piece
}
