package coder

import (
	"watershed/api"
	"watershed/kind"
)

// reader stands at a place of bytes. Where something can't be read, it stays at the
// byte that is wrong, or at the end, if bytes are missing.
type reader struct {
	bytes []byte
	at    int
	// size is the least size that the whole value may still have: what must still
	// come counts already, what need not come doesn't.
	size int
}

// fault tells why nothing can be read at the reader's place.
func (r *reader) fault() api.Errno {
	if r.at == len(r.bytes) {
		return api.ErrShort
	}
	return api.ErrCode
}

// readValue reads a value of a right type.
func (r *reader) readValue(t kind.Type) (v api.Value, good bool) {
	v.Kind = t.Kind
	switch t.Kind {
	case api.Bool:
		v.Int, good = r.readBool()
	case api.Int:
		v.Int, good = r.readInt()
	case api.Text, api.Bytes:
		v.Text, good = r.readText()
	case api.Point:
		v.Point, good = r.readPoint()
	case api.Pair:
		v.List, good = r.readPair(t.Args[0], t.Args[1])
	case api.List:
		v.List, good = r.readList(t.Args[0])
	case api.Some:
		v, good = r.readOption(t.Args[0])
	}
	return v, good
}

// look tells the byte at the reader's place, if one is there.
func (r *reader) look() (b byte, there bool) {
	if r.at == len(r.bytes) {
		return 0, false
	}
	return r.bytes[r.at], true
}

// readByte reads a byte that is at most so great.
func (r *reader) readByte(most byte) (byte, bool) {
	b, there := r.look()
	if !there || b > most {
		return 0, false
	}
	r.at++
	return b, true
}

// readNumber reads a number of so many bytes, the highest first; that one is at most so great.
func (r *reader) readNumber(bytes int, most byte) (uint64, bool) {
	var n uint64
	for range bytes {
		b, good := r.readByte(most)
		if !good {
			return 0, false
		}
		n = n<<8 | uint64(b)
		most = 0xff
	}
	return n, true
}

func (r *reader) readBool() (int, bool) {
	n, good := r.readNumber(1, 1)
	return int(n), good
}

// readInt takes back what an int's bytes have more: once more the same comes round to it.
func (r *reader) readInt() (int, bool) {
	n, good := r.readNumber(8, 0xff)
	return int(n + high), good
}

// readText reads a text byte by byte, up to the 00 00 at its end. All faults of a text
// are seen at one place: a 00 may come at any time, because it may be the end's, but
// another byte only where the text has room, and behind a 00 only ff.
func (r *reader) readText() (string, bool) {
	var text []byte
	half := false
again:
	b, there := r.look()
	room := len(text) < api.MaxText
	if !there || b != 0 && (!room || half && b != 0xff) {
		return "", false
	}
	r.at++
	switch {
	case half && b == 0:
		return string(text), true
	case half:
		text = append(text, 0)
		half = false
	case b == 0:
		half = true
	default:
		text = append(text, b)
	}
	goto again
}

func (r *reader) readPoint() (complex128, bool) {
	re, good := r.readPart()
	if !good {
		return 0, false
	}
	im, good := r.readPart()
	return complex(re, im), good
}

// readPart reads a part of a point. Of its 24 bits only 21 are any, so the highest byte is bounded.
func (r *reader) readPart() (float64, bool) {
	n, good := r.readNumber(3, (2*api.Half-1)>>16)
	return float64(n) - api.Half, good
}

func (r *reader) readPair(first, second kind.Type) ([]api.Value, bool) {
	a, good := r.readValue(first)
	if !good {
		return nil, false
	}
	b, good := r.readValue(second)
	return []api.Value{a, b}, good
}

func (r *reader) readList(t kind.Type) ([]api.Value, bool) {
	var list []api.Value
	for {
		begun, good := r.readMore(t, len(list) < api.MaxList)
		if !begun || !good {
			return list, good
		}
		v, good := r.readValue(t)
		if !good {
			return nil, false
		}
		list = append(list, v)
	}
}

func (r *reader) readOption(t kind.Type) (api.Value, bool) {
	begun, good := r.readMore(t, true)
	if !begun {
		return api.Value{Kind: api.None}, good
	}
	v, good := r.readValue(t)
	return api.Value{Kind: api.Some, List: []api.Value{v}}, good
}

// readMore reads whether a value of the type comes: it may, where there is room for one
// and the least of it doesn't make the whole too great.
func (r *reader) readMore(t kind.Type, room bool) (begun, good bool) {
	size := r.size + least(t)
	most := byte(0)
	if room && size <= api.MaxSize {
		most = more
	}
	b, good := r.readByte(most)
	if b != more {
		return false, good
	}
	r.size = size
	return true, true
}
