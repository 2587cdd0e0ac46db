package graph

import (
	"strconv"
	"strings"

	"watershed/api"
	"watershed/kind"
	"watershed/trigger"
	"watershed/window"
)

// The greatest numbers that can be read.
const (
	maxPlace  = 999     // of a place
	maxNumber = 9999999 // of any other number
)

const (
	noPlaces   = "-"   // stands for no Sides
	accumulate = "acc" // stands for Accumulate
	discard    = "dis" // stands for Accumulate that is not set
)

// line tells the line of a right node, without its end.
func (n Node) line() string {
	o, _ := opOf(n.Op)
	return o.word + " " + strings.Join(n.parts(), " ")
}

// parts tells what stands behind the word in the line of a right node.
func (n Node) parts() []string {
	switch n.Op {
	case Source:
		text, _ := kind.Show(n.Type)
		return []string{text}
	case Each:
		return []string{placesText(n.In), placesText(n.Side), n.Text}
	case Window:
		f := n.Fn
		return []string{placesText(n.In), strconv.Itoa(f.Kind), strconv.Itoa(f.Size), strconv.Itoa(f.Period), strconv.Itoa(f.Offset)}
	case Group:
		t := n.Trig
		mode := discard
		if t.Accumulate {
			mode = accumulate
		}
		return []string{placesText(n.In), strconv.Itoa(t.Early), strconv.Itoa(t.Late), strconv.Itoa(t.Lateness), mode, n.Text}
	}
	return []string{placesText(n.In)}
}

// placesText tells places as they are written.
func placesText(places []int) string {
	if len(places) == 0 {
		return noPlaces
	}
	var texts []string
	for _, at := range places {
		texts = append(texts, strconv.Itoa(at))
	}
	return strings.Join(texts, ",")
}

// readLine reads a node's line, whose values may be any that can be written: Check tells
// whether its places are those of nodes ahead, and whether its numbers are right together.
func readLine(line string) (Node, bool) {
	word, rest, _ := strings.Cut(line, " ")
	for _, o := range ops {
		if o.word == word {
			// The last part goes on to the line's end: a Text may have blanks.
			parts := strings.SplitN(rest, " ", o.parts)
			if len(parts) < o.parts {
				return Node{}, false
			}
			r := reader{parts: parts}
			n := r.readNode(o.number)
			return n, !r.failed
		}
	}
	return Node{}, false
}

// reader takes a line's parts one by one. It has failed, if one of them was not what it had to be.
type reader struct {
	parts  []string
	failed bool
}

// readNode reads a node of an Op from as many parts as that has.
func (r *reader) readNode(op int) Node {
	n := Node{Op: op}
	switch op {
	case Source:
		n.Type = r.readType()
	case Each:
		n.In = r.readPlace()
		n.Side = r.readSides()
		n.Text = r.readText()
	case Window:
		n.In = r.readPlace()
		n.Fn = r.readFn()
	case Group:
		n.In = r.readPlace()
		n.Trig = r.readTrig()
		n.Text = r.readText()
	case Flatten:
		n.In = r.placesOf(r.next())
	case Sink:
		n.In = r.readPlace()
	}
	return n
}

// next takes the next part.
func (r *reader) next() string {
	part := r.parts[0]
	r.parts = r.parts[1:]
	return part
}

// need has the reader failed, if something is not so.
func (r *reader) need(so bool) {
	if !so {
		r.failed = true
	}
}

func (r *reader) readType() kind.Type {
	t, _, e := kind.Parse(r.next())
	r.need(e == api.OK)
	return t
}

func (r *reader) readText() string {
	s := r.next()
	r.need(isText(s))
	return strings.Clone(s)
}

func (r *reader) readFn() window.Fn {
	var f window.Fn
	f.Kind = r.readNumber()
	f.Size = r.readNumber()
	f.Period = r.readNumber()
	f.Offset = r.readNumber()
	return f
}

func (r *reader) readTrig() trigger.Spec {
	var t trigger.Spec
	t.Early = r.readNumber()
	t.Late = r.readNumber()
	t.Lateness = r.readNumber()
	mode := r.next()
	r.need(mode == accumulate || mode == discard)
	t.Accumulate = mode == accumulate
	return t
}

func (r *reader) readNumber() int {
	n, good := numberOf(r.next(), maxNumber)
	r.need(good)
	return n
}

func (r *reader) readPlace() []int {
	at, good := numberOf(r.next(), maxPlace)
	r.need(good)
	return []int{at}
}

// readSides reads places of which there may be none.
func (r *reader) readSides() []int {
	if s := r.next(); s != noPlaces {
		return r.placesOf(s)
	}
	return nil
}

// placesOf tells the places of a text: as many as a node may have, but one at least, and rising.
func (r *reader) placesOf(s string) []int {
	// More than one too many need not be told apart: what is left of them is no number.
	var places []int
	for _, part := range strings.SplitN(s, ",", maxReads+1) {
		at, good := numberOf(part, maxPlace)
		r.need(good)
		places = append(places, at)
	}
	r.need(len(places) <= maxReads && rising(places))
	return places
}

// numberOf tells the number of a text, if that is the one in which a number from 0 to most is written.
func numberOf(s string, most int) (int, bool) {
	n, wrong := strconv.Atoi(s)
	return n, wrong == nil && within(n, 0, most) && strconv.Itoa(n) == s
}
