package kind

import (
	"strings"

	"watershed/api"
)

// word is what a kind is called in texts, and how many Args stand behind it.
type word struct {
	kind, args int
	name       string
}

// words are those of all kinds of types. No name is the beginning of another one:
// whoever has read a name to its end need not look further.
var words = [...]word{
	{api.Bool, 0, "bool"},
	{api.Int, 0, "int"},
	{api.Text, 0, "text"},
	{api.Bytes, 0, "bytes"},
	{api.Point, 0, "point"},
	{api.Pair, 2, "pair"},
	{api.List, 1, "list"},
	{api.Some, 1, "option"},
}

// ahead has the bytes that stand ahead of the first Arg and of the second.
const ahead = "(,"

// Show: its text.
func Show(t Type) (string, api.Errno) {
	if e := Check(t); e != api.OK {
		return "", e
	}
	var text strings.Builder
	write(&text, t)
	return text.String(), api.OK
}

// Parse: the type of a text.
func Parse(s string) (t Type, at int, e api.Errno) {
	r := reader{text: s}
	t, good := r.readType(api.MaxKind)
	if !good || r.at < len(s) {
		return Type{}, r.at, api.ErrSyntax
	}
	return t, 0, api.OK
}

// wordOf tells the word of a kind.
func wordOf(kind int) (word, bool) {
	for _, w := range words {
		if w.kind == kind {
			return w, true
		}
	}
	return word{}, false
}

// write adds a right type's text.
func write(text *strings.Builder, t Type) {
	w, _ := wordOf(t.Kind)
	text.WriteString(w.name)
	for i, a := range t.Args {
		text.WriteByte(ahead[i])
		write(text, a)
	}
	if w.args > 0 {
		text.WriteByte(')')
	}
}

// reader stands at a place of a text. Where something can't be read, it stays at
// the byte that is wrong, or at the end, if bytes are missing.
type reader struct {
	text string
	at   int
}

// readType reads a type that is at most room deep.
func (r *reader) readType(room int) (Type, bool) {
	w, good := r.readWord(wordsWithin(room))
	if !good {
		return Type{}, false
	}
	t := Type{Kind: w.kind}
	for i := range w.args {
		if !r.readByte(ahead[i]) {
			return Type{}, false
		}
		a, good := r.readType(room - 1)
		if !good {
			return Type{}, false
		}
		t.Args = append(t.Args, a)
	}
	if w.args > 0 && !r.readByte(')') {
		return Type{}, false
	}
	return t, true
}

// readByte reads just this byte.
func (r *reader) readByte(b byte) bool {
	if r.at == len(r.text) || r.text[r.at] != b {
		return false
	}
	r.at++
	return true
}

// readWord reads one of the words that are left.
func (r *reader) readWord(left []word) (word, bool) {
	read := 0
again:
	if r.at < len(r.text) {
		left = goingOn(left, read, r.text[r.at])
	} else {
		left = nil
	}
	if len(left) == 0 {
		return word{}, false
	}
	r.at++
	read++
	if read < len(left[0].name) {
		goto again
	}
	return left[0], true
}

// wordsWithin tells the words of types that are at most room deep. Where nothing
// deeper has room, what has Args is ruled out from its first byte on, since no
// right type's text goes on like that.
func wordsWithin(room int) []word {
	var fit []word
	for _, w := range words {
		if room > 1 || w.args == 0 {
			fit = append(fit, w)
		}
	}
	return fit
}

// goingOn tells those of the words that have this byte at this place.
func goingOn(left []word, place int, b byte) []word {
	var fit []word
	for _, w := range left {
		if w.name[place] == b {
			fit = append(fit, w)
		}
	}
	return fit
}
