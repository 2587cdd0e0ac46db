package coder

import "watershed/api"

// high is what an int's bytes have more than the int, so that those below 0 come first.
const high = 1 << 63

// more stands ahead of a value of a list and of that of an option; a byte 00 says that there is none.
const more = 1

// appendValue adds the bytes of a right value. Those of all types that it is of are the same.
func appendValue(b []byte, v api.Value) []byte {
	switch v.Kind {
	case api.Bool:
		return append(b, byte(v.Int))
	case api.Int:
		return appendNumber(b, 8, uint64(v.Int)+high)
	case api.Text, api.Bytes:
		return appendText(b, v.Text)
	case api.Point:
		return appendPoint(b, v.Point)
	case api.Pair:
		return appendValue(appendValue(b, v.List[0]), v.List[1])
	}
	for _, w := range v.List {
		b = appendValue(append(b, more), w)
	}
	if v.Kind == api.Some {
		return b
	}
	return append(b, 0)
}

// appendNumber adds a number in so many bytes, the highest first.
func appendNumber(b []byte, bytes int, n uint64) []byte {
	for bytes > 0 {
		bytes--
		b = append(b, byte(n>>(8*bytes)))
	}
	return b
}

// appendText adds a text's bytes. Behind a 00 of the text stands an ff, so that the 00 00
// at the end is told from it, and is less than whatever goes on.
func appendText(b []byte, s string) []byte {
	for i := range len(s) {
		b = append(b, s[i])
		if s[i] == 0 {
			b = append(b, 0xff)
		}
	}
	return append(b, 0, 0)
}

// appendPoint adds both parts of a point, each moved up so that none is below 0.
func appendPoint(b []byte, p complex128) []byte {
	b = appendNumber(b, 3, uint64(int(real(p))+api.Half))
	return appendNumber(b, 3, uint64(int(imag(p))+api.Half))
}
