package expr

import (
	"math"
	"strings"

	"watershed/api"
	"watershed/kind"
)

// reader stands at a place of a text. Where something can't be read, it stays at the
// byte that is wrong, or at the end, if bytes are missing.
type reader struct {
	text string
	at   int
}

// look tells the byte at the reader's place, or 0, which no text has, at the end.
func (r *reader) look() byte {
	if r.at == len(r.text) {
		return 0
	}
	return r.text[r.at]
}

func (r *reader) skipBlanks() {
	for r.look() == ' ' {
		r.at++
	}
}

// readByte reads just this byte.
func (r *reader) readByte(b byte) bool {
	if r.look() != b {
		return false
	}
	r.at++
	return true
}

// readMark reads a byte that blanks may stand ahead of.
func (r *reader) readMark(b byte) bool {
	r.skipBlanks()
	return r.readByte(b)
}

// readExpr reads an expression whose term is at most room deep.
func (r *reader) readExpr(room int) (Node, bool) {
	b := r.look()
	switch {
	case b == '-' || isDigit(b):
		n, good := r.readNumber()
		return Node{Op: opInt, Int: n}, good
	case b == '"':
		s, good := r.readString()
		return Node{Op: opText, Text: s}, good
	case isLetter(b):
		return r.readWord(room)
	}
	return Node{}, false
}

// readNumber reads a number digit by digit. A digit that no number goes on with isn't
// taken for one of it: nothing that may stand behind a number begins with a digit, so
// the fault is at that digit anyway.
func (r *reader) readNumber() (int, bool) {
	most := uint64(math.MaxInt64)
	negative := r.readByte('-')
	if negative {
		most++
	}
	var n uint64
	begun := false
again:
	b := r.look()
	digit := uint64(b - '0')
	// No digit stands behind a nought that begins a number, no such nought behind a -.
	barred := n == 0 && (begun || negative && digit == 0) || n > (most-digit)/10
	if isDigit(b) && !barred {
		n = 10*n + digit
		begun = true
		r.at++
		goto again
	}
	if negative {
		n = -n
	}
	return int(n), begun
}

// readString reads a string byte by byte, from quote to quote.
func (r *reader) readString() (string, bool) {
	var text []byte
	r.at++
again:
	if r.readByte('"') {
		return string(text), true
	}
	if len(text) < api.MaxText {
		if b, good := r.readLetter(); good {
			text = append(text, b)
			goto again
		}
	}
	return "", false
}

// readLetter reads one byte of a string, as it is written.
func (r *reader) readLetter() (byte, bool) {
	if r.readByte('\\') {
		return r.readCoded()
	}
	b := r.look()
	if !isPlain(b) {
		return 0, false
	}
	r.at++
	return b, true
}

const hexDigits = "0123456789abcdef"

// readCoded reads the two digits of a byte that isn't written as itself.
func (r *reader) readCoded() (byte, bool) {
	high := strings.IndexByte(hexDigits, r.look())
	if high < 0 || !someCoded(high) {
		return 0, false
	}
	r.at++
	low := strings.IndexByte(hexDigits, r.look())
	if low < 0 || isPlain(byte(high<<4|low)) {
		return 0, false
	}
	r.at++
	return byte(high<<4 | low), true
}

// someCoded: is there a byte with this first digit that isn't written as itself?
func someCoded(high int) bool {
	for low := range len(hexDigits) {
		if !isPlain(byte(high<<4 | low)) {
			return true
		}
	}
	return false
}

// readSpelt reads what is spelt like a name: a name, a word, or nothing.
func (r *reader) readSpelt() string {
	from := r.at
	r.at += nameLength(r.text[from:])
	return strings.Clone(r.text[from:r.at])
}

// readName reads a name where no other expression may stand. A word may still become
// a name by what is behind it, so it is faulty only there.
func (r *reader) readName() (Node, bool) {
	s := r.readSpelt()
	return Node{Op: opName, Text: s}, isName(s)
}

// readWord reads a name, or a word and what stands behind it. At the greatest depth a
// word that has Kids is faulty just where it doesn't become a name.
func (r *reader) readWord(room int) (Node, bool) {
	s := r.readSpelt()
	w, found := wordOf(s)
	if !found {
		return Node{Op: opName, Text: s}, true
	}
	if w.has(anExpr) && room == 1 {
		return Node{}, false
	}
	n := Node{Op: s}
	good := w.parts == "" || r.readParts(&n, w, room-1)
	return n, good
}

// readParts reads what stands in a word's brackets, and these.
func (r *reader) readParts(n *Node, w word, room int) bool {
	mark := byte('(')
	for i := range len(w.parts) {
		if !r.readMark(mark) || !r.readPart(n, w.parts[i], room) {
			return false
		}
		if i+1 >= w.least && r.readMark(')') {
			return true
		}
		mark = ','
	}
	return false
}

// readPart reads one part and lays it to the term.
func (r *reader) readPart(n *Node, part byte, room int) bool {
	r.skipBlanks()
	var kid Node
	good := false
	switch part {
	case aDigit:
		n.Int, good = r.readDigit()
		return good
	case aType:
		n.Type, good = r.readType()
		return good
	case aName:
		kid, good = r.readName()
	default:
		kid, good = r.readExpr(room)
	}
	n.Kids = append(n.Kids, kid)
	return good
}

func (r *reader) readDigit() (int, bool) {
	b := r.look()
	if !isDigit(b) {
		return 0, false
	}
	r.at++
	return int(b - '0'), true
}

// readType reads a type. No type's text is the beginning of another one's: where one
// stands with more behind it, layer 2 has the fault just behind it.
func (r *reader) readType() (kind.Type, bool) {
	rest := r.text[r.at:]
	t, at, e := kind.Parse(rest)
	if e == api.OK {
		r.at = len(r.text)
		return t, true
	}
	r.at += at
	t, _, e = kind.Parse(rest[:at])
	return t, e == api.OK
}
