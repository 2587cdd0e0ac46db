package expr

import (
	"strconv"
	"strings"

	"watershed/api"
	"watershed/kind"
)

// writer writes terms and counts their Nodes.
type writer struct {
	strings.Builder
	nodes int
}

// written tells a writer that has written all of a term, if that is right and its text
// not too long.
func written(n Node) (*writer, api.Errno) {
	w := &writer{}
	if !w.writeTerm(n, maxDepth) || w.Len() > maxLength {
		return nil, api.ErrOp
	}
	return w, api.OK
}

// writeTerm writes a term that is right and at most room deep. It begins no term when the
// text is too long already, because Kids may stand in themselves, or in many places.
func (w *writer) writeTerm(n Node, room int) bool {
	if room == 0 || w.Len() > maxLength {
		return false
	}
	w.nodes++
	switch n.Op {
	case opInt:
		w.WriteString(strconv.Itoa(n.Int))
		n.Int = 0
	case opText:
		if len(n.Text) > api.MaxText {
			return false
		}
		w.quote(n.Text)
		n.Text = ""
	case opName:
		if !isName(n.Text) {
			return false
		}
		w.WriteString(n.Text)
		n.Text = ""
	default:
		return w.writeWord(n, room)
	}
	return isBare(n)
}

// writeWord writes a term that begins with a word.
func (w *writer) writeWord(n Node, room int) bool {
	behind, found := wordOf(n.Op)
	if !found {
		return false
	}
	w.WriteString(n.Op)
	switch {
	case behind.has(anExpr):
		if !w.writeKids(n.Kids, behind, room-1) {
			return false
		}
		n.Kids = nil
	case behind.has(aDigit):
		if n.Int < 0 || n.Int > 9 {
			return false
		}
		w.bracket(strconv.Itoa(n.Int))
		n.Int = 0
	case behind.has(aType):
		text, e := kind.Show(n.Type)
		if e != api.OK {
			return false
		}
		w.bracket(text)
		n.Type = kind.Type{}
	}
	return isBare(n)
}

// writeKids writes as many Kids as may stand behind a word.
func (w *writer) writeKids(kids []Node, behind word, room int) bool {
	if len(kids) < behind.least || len(kids) > len(behind.parts) {
		return false
	}
	mark := byte('(')
	for i, kid := range kids {
		w.WriteByte(mark)
		if behind.parts[i] == aName && kid.Op != opName || !w.writeTerm(kid, room) {
			return false
		}
		mark = ','
	}
	w.WriteByte(')')
	return true
}

// bracket writes a text in brackets.
func (w *writer) bracket(text string) {
	w.WriteByte('(')
	w.WriteString(text)
	w.WriteByte(')')
}

// quote writes a string.
func (w *writer) quote(text string) {
	w.WriteByte('"')
	for i := range len(text) {
		if b := text[i]; isPlain(b) {
			w.WriteByte(b)
		} else {
			w.WriteByte('\\')
			w.WriteByte(hexDigits[b>>4])
			w.WriteByte(hexDigits[b&15])
		}
	}
	w.WriteByte('"')
}

// isBare: is nothing but the Op set? Whoever writes a field takes it away, so that what
// is left has no business there.
func isBare(n Node) bool {
	return n.Int == 0 && n.Text == "" && n.Type.Kind == 0 && len(n.Type.Args) == 0 && len(n.Kids) == 0
}
