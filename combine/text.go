package combine

import (
	"slices"
	"strconv"
	"strings"
)

// The names of combiners.
const (
	countName = "count"
	sumName   = "sum"
	meanName  = "mean"
	spinName  = "spin"
	minName   = "min"
	maxName   = "max"
	allName   = "all"
	setName   = "set"
	topName   = "top"
	bothName  = "both"
)

const (
	maxDepth = 3
	maxKept  = 16
)

// bare are the names whose combiners have nothing else set.
var bare = [...]string{countName, sumName, meanName, spinName, minName, maxName, allName, setName}

// ahead has the bytes that stand ahead of the first Part and of the second.
const ahead = "(,"

// head is all of a combiner but its Parts: how its text begins, and how many Parts
// stand behind that. No head's text is the beginning of another one's: whoever has
// read one to its end need not look further.
type head struct {
	name  string
	k     int
	text  string
	parts int
}

// headsWithin tells the heads of combiners that are at most room deep. Where nothing
// deeper has room, what has Parts is ruled out from its first byte on, since no right
// combiner's text goes on like that.
func headsWithin(room int) []head {
	all := make([]head, 0, len(bare)+maxKept+1)
	for _, name := range bare {
		all = append(all, head{name: name, text: name})
	}
	for k := 1; k <= maxKept; k++ {
		all = append(all, head{name: topName, k: k, text: topName + "(" + strconv.Itoa(k) + ")"})
	}
	if room > 1 {
		all = append(all, head{name: bothName, text: bothName, parts: 2})
	}
	return all
}

// headOf tells the head of a combiner that is at most room deep, if it has one.
func headOf(c Comb, room int) (head, bool) {
	for _, h := range headsWithin(room) {
		if h.name == c.Name && h.k == c.K && h.parts == len(c.Parts) {
			return h, true
		}
	}
	return head{}, false
}

// isRight: is it a right combiner that is at most room deep? It looks no deeper than
// that, because Parts may stand in themselves.
func isRight(c Comb, room int) bool {
	if _, found := headOf(c, room); !found {
		return false
	}
	for _, p := range c.Parts {
		if !isRight(p, room-1) {
			return false
		}
	}
	return true
}

// textOf tells a right combiner's text.
func textOf(c Comb) string {
	h, _ := headOf(c, maxDepth)
	var text strings.Builder
	text.WriteString(h.text)
	for i, p := range c.Parts {
		text.WriteByte(ahead[i])
		text.WriteString(textOf(p))
	}
	if h.parts > 0 {
		text.WriteByte(')')
	}
	return text.String()
}

// reader stands at a place of a text. Where something can't be read, it stays at
// the byte that is wrong, or at the end, if bytes are missing.
type reader struct {
	text string
	at   int
}

// readComb reads a combiner that is at most room deep.
func (r *reader) readComb(room int) (Comb, bool) {
	h, good := r.readHead(headsWithin(room))
	if !good {
		return Comb{}, false
	}
	c := Comb{Name: h.name, K: h.k}
	for i := range h.parts {
		if !r.readByte(ahead[i]) {
			return Comb{}, false
		}
		p, good := r.readComb(room - 1)
		if !good {
			return Comb{}, false
		}
		c.Parts = append(c.Parts, p)
	}
	if h.parts > 0 && !r.readByte(')') {
		return Comb{}, false
	}
	return c, true
}

// readByte reads just this byte.
func (r *reader) readByte(b byte) bool {
	if r.at == len(r.text) || r.text[r.at] != b {
		return false
	}
	r.at++
	return true
}

// readHead reads the one of these heads whose text stands here. It takes out of left
// those whose text doesn't.
func (r *reader) readHead(left []head) (head, bool) {
	read := 0
again:
	left = slices.DeleteFunc(left, func(h head) bool {
		return r.at == len(r.text) || h.text[read] != r.text[r.at]
	})
	if len(left) == 0 {
		return head{}, false
	}
	r.at++
	read++
	if read < len(left[0].text) {
		goto again
	}
	return left[0], true
}
