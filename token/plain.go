package token

import (
	"strconv"
	"strings"
)

// Plain lays out the tokens of whole statements, each statement on a line.
func Plain(tokens []Token) string {
	var plain strings.Builder
	before := Semicolon // a line's first token stands as behind a statement's end
	for i := 0; i < len(tokens) && tokens[i].Sort != End; i++ {
		if isNeedlessFactor(tokens[i:]) {
			i++ // its star goes with it
			continue
		}
		t := tokens[i]
		if !joinsBehind(before) && !joinsAhead(t.Sort) {
			plain.WriteByte(' ')
		}
		plain.WriteString(spelling(t))
		if t.Sort == Semicolon {
			plain.WriteByte('\n')
		}
		before = t.Sort
	}
	return plain.String()
}

// isNeedlessFactor: a star stands behind factors alone, so it tells them from other numbers.
func isNeedlessFactor(tokens []Token) bool {
	return len(tokens) > 1 && tokens[0].Sort == Int && tokens[0].Value == 1 && tokens[1].Sort == Star
}

// joinsAhead: whether no blank stands ahead of such a token.
func joinsAhead(s Sort) bool {
	switch s {
	case Semicolon, Comma, Colon, Close, Open, Dots:
		return true
	}
	return false
}

// joinsBehind: whether no blank stands behind such a token; the line end stands behind a semicolon.
func joinsBehind(s Sort) bool {
	switch s {
	case Open, Not, Dots, Semicolon:
		return true
	}
	return false
}

// spelling: a number is written anew, because it may have been read with noughts ahead.
func spelling(t Token) string {
	if t.Sort == Int {
		return strconv.Itoa(t.Value)
	}
	return t.Text
}
