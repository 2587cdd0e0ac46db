package expr

import "strings"

// The Ops of terms that begin with no word.
const (
	opInt  = "int"
	opText = "text_of"
	opName = "name"
)

// What stands at one place behind a word.
const (
	anExpr = 'e'
	aName  = 'n'
	aDigit = 'd'
	aType  = 't'
)

const (
	maxName  = 16
	maxParts = 64
)

// word says what stands in the brackets behind a word: these parts, one by one, of which
// that many must be there. Where there are no parts, there are no brackets.
type word struct {
	parts string
	least int
}

// wordOf tells what stands behind a word, if it is one.
func wordOf(s string) (w word, found bool) {
	parts := ""
	switch s {
	case "true", "false", "it":
	case "side":
		parts = "d"
	case "nil", "none":
		parts = "t"
	case "neg", "not", "first", "second", "len", "sort", "some", "is_some",
		"size", "bytes", "text", "show", "re", "im", "conj", "range":
		parts = "e"
	case "add", "sub", "mul", "div", "mod", "eq", "lt", "and", "or",
		"pair", "cons", "concat", "at", "or_else", "join", "point":
		parts = "ee"
	case "if", "cut":
		parts = "eee"
	case "list":
		return word{parts: strings.Repeat("e", maxParts), least: 1}, true
	case "let":
		parts = "nee"
	case "map", "filter":
		parts = "ene"
	case "fold":
		parts = "eenne"
	default:
		return word{}, false
	}
	return word{parts: parts, least: len(parts)}, true
}

// has: is there such a one among its parts?
func (w word) has(part byte) bool {
	return strings.IndexByte(w.parts, part) >= 0
}

// isName: is all of s a name?
func isName(s string) bool {
	_, found := wordOf(s)
	return s != "" && nameLength(s) == len(s) && !found
}

// nameLength tells how many bytes s begins with that may be those of a name or a word.
func nameLength(s string) int {
	n := 0
	for n < len(s) && n < maxName && (isLetter(s[n]) || n > 0 && (isDigit(s[n]) || s[n] == '_')) {
		n++
	}
	return n
}

func isLetter(b byte) bool { return b >= 'a' && b <= 'z' }

func isDigit(b byte) bool { return b >= '0' && b <= '9' }

// isPlain: is it written as itself in a string?
func isPlain(b byte) bool {
	return b >= 32 && b <= 126 && b != '"' && b != '\\'
}
