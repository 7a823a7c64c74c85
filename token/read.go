package token

import (
	"strconv"
	"strings"

	"assay/api"
)

const maxInt = 10 // bytes of an Int, its minus among them

// Read gives the tokens of a text, an End behind them, or the line of the first byte that no token begins with or of the first token that is too long.
func Read(text string) ([]Token, int) {
	var tokens []Token
	line := 1
	for i := 0; i < len(text); {
		switch text[i] {
		case '\n':
			line++
			i++
		case ' ', '\t':
			i++
		case '%':
			i += restOfLine(text[i:])
		default:
			t := first(text[i:])
			if t.Sort == None {
				return nil, line
			}
			t.Line = line
			tokens = append(tokens, t)
			i += len(t.Text)
		}
	}
	return append(tokens, Token{Sort: End, Line: line}), 0
}

// restOfLine leaves the line end itself standing: it must still be counted.
func restOfLine(text string) int {
	if end := strings.IndexByte(text, '\n'); end >= 0 {
		return end
	}
	return len(text)
}

// first gives the token that a text, not empty, begins with.
func first(text string) Token {
	switch {
	case isLetter(text[0]):
		return word(text)
	case isDigit(text[0]), text[0] == '-' && len(text) > 1 && isDigit(text[1]):
		return number(text)
	default:
		return sign(text)
	}
}

func word(text string) Token {
	length := 1
	for length < len(text) && (isLetter(text[length]) || isDigit(text[length])) {
		length++
	}
	if length > api.MaxName {
		return Token{}
	}
	return Token{Sort: wordSort(text[:length]), Text: text[:length]}
}

func number(text string) Token {
	length := 1
	for length < len(text) && isDigit(text[length]) {
		length++
	}
	if length > maxInt {
		return Token{}
	}
	// So few digits are always a number; where an int is too small for it, the nearest one is as far out of every range.
	value, _ := strconv.Atoi(text[:length])
	return Token{Sort: Int, Text: text[:length], Value: value}
}

// sign tries two bytes ahead of one, because each token is as long as can be.
func sign(text string) Token {
	for length := min(2, len(text)); length > 0; length-- {
		if s := signSort(text[:length]); s != None {
			return Token{Sort: s, Text: text[:length]}
		}
	}
	return Token{}
}

func wordSort(word string) Sort {
	switch word {
	case "var":
		return Var
	case "list":
		return List
	case "lin":
		return Lin
	case "when":
		return When
	case "at":
		return At
	case "diff":
		return Diff
	case "or":
		return Or
	}
	return Name
}

func signSort(sign string) Sort {
	switch sign {
	case ";":
		return Semicolon
	case ":":
		return Colon
	case ",":
		return Comma
	case "=":
		return Equal
	case "!=":
		return Unequal
	case "<=":
		return AtMost
	case "..":
		return Dots
	case "[":
		return Open
	case "]":
		return Close
	case "+":
		return Plus
	case "*":
		return Star
	case "!":
		return Not
	case "-":
		return Minus
	}
	return None
}

func isLetter(b byte) bool { return 'a' <= b && b <= 'z' }

func isDigit(b byte) bool { return '0' <= b && b <= '9' }
