package value

import (
	"slices"
	"testing"
	"unsafe"

	"watershed/api"
)

// P1.1: what is right.
func TestCheck(t *testing.T) {
	for i, v := range rights() {
		if e := Check(v); e != api.OK {
			t.Errorf("right value %d: %d", i, e)
		}
	}
	for i, v := range wrongs() {
		if e := Check(v); e != api.ErrValue {
			t.Errorf("wrong value %d: %d", i, e)
		}
	}
	for i, v := range anyValues(500) {
		if e := Check(v); e != api.OK {
			t.Errorf("value %d: %d", i, e)
		}
	}
}

// P1.1: a wrong value is found wherever it stands.
func TestCheckDeep(t *testing.T) {
	for i, v := range wrongs() {
		if Check(pair(none, v)) != api.ErrValue || Check(list(none, some(v), none)) != api.ErrValue {
			t.Errorf("wrong value %d in another one", i)
		}
	}
}

// P1: what stands in itself, or is much too great by the same list in many places, is refused at once.
func TestCheckWide(t *testing.T) {
	if Check(ring()) != api.ErrValue || Check(list(none, ring())) != api.ErrValue {
		t.Error("a ring is right")
	}
	v := times(api.MaxList, none)
	for range 20 {
		v = times(api.MaxList, v)
	}
	if Check(v) != api.ErrValue {
		t.Error("64^21 values are right")
	}
	if Check(times(1<<20, none)) != api.ErrValue {
		t.Error("a list of 2^20 is right")
	}
}

// P1.1: sizes and depths.
func TestSizeDepth(t *testing.T) {
	for i, c := range []struct {
		v           api.Value
		size, depth int
	}{
		{num(3), 1, 1}, {none, 1, 1}, {list(), 1, 1}, {some(list()), 2, 2}, {pair(num(1), num(2)), 3, 2},
		{list(num(1), list(num(2))), 4, 3}, {list(list(num(2)), num(1)), 4, 3}, {pair(some(some(none)), num(1)), 5, 4},
		{times(api.MaxList, num(1)), api.MaxList + 1, 2}, {nested(num(1), 7), 8, 8}, {sized(api.MaxSize), api.MaxSize, 3},
		{pair(nested(none, 2), nested(none, 6)), 11, 8},
	} {
		size, e := Size(c.v)
		if size != c.size || e != api.OK {
			t.Errorf("Size of value %d: %d, %d", i, size, e)
		}
		depth, e := Depth(c.v)
		if depth != c.depth || e != api.OK {
			t.Errorf("Depth of value %d: %d, %d", i, depth, e)
		}
	}
}

// P1.1: every call refuses what isn't right, and tells nothing beside.
func TestRefused(t *testing.T) {
	for i, v := range wrongs() {
		if n, e := Size(v); n != 0 || e != api.ErrValue {
			t.Errorf("Size of wrong value %d: %d, %d", i, n, e)
		}
		if n, e := Depth(v); n != 0 || e != api.ErrValue {
			t.Errorf("Depth of wrong value %d: %d, %d", i, n, e)
		}
		if n, e := Compare(v, num(1)); n != 0 || e != api.ErrValue {
			t.Errorf("Compare of wrong value %d: %d, %d", i, n, e)
		}
		if n, e := Compare(none, v); n != 0 || e != api.ErrValue {
			t.Errorf("Compare with wrong value %d: %d, %d", i, n, e)
		}
		if l, e := Sort(num(2), num(1), v); l != nil || e != api.ErrValue {
			t.Errorf("Sort of wrong value %d: %v, %d", i, l, e)
		}
		copied, e := Copy(v)
		wantRefused(t, "Copy", copied, e)
	}
}

// ladder has values in their order, each less than the next one.
func ladder() []api.Value {
	return []api.Value{
		boolean(0), boolean(1),
		num(-1 << 63), num(-1), num(0), num(1), num(1<<63 - 1),
		text(""), text("\x00"), text("a"), text("a\x00"), text("aab"), text("a\xff"), text("b"), text("\xff"),
		octets(""), octets("\x00"), octets("\x00\x00"), octets("\x01"), octets("\x80"),
		dot(-1<<20, -1<<20), dot(-1<<20, 1<<20-1), dot(-1, 0), dot(0, -1), dot(0, 0), dot(0, 1), dot(1, -5), dot(1<<20-1, 0),
		pair(num(1), num(2)), pair(num(1), num(3)), pair(num(2), num(0)), pair(text(""), num(0)),
		list(), list(boolean(1)), list(num(1)), list(num(1), num(1)), list(num(1), num(2)), list(num(2)), list(list(num(1)), num(9)),
		list(list(num(1), num(0)), num(2)), list(list(num(2)), num(1)), list(none),
		none,
		some(boolean(0)), some(num(5)), some(none), some(some(none)),
	}
}

// P1.2: the order, by a ladder of values.
func TestCompareLadder(t *testing.T) {
	steps := ladder()
	for i, a := range steps {
		for j, b := range steps {
			want := 0
			if i < j {
				want = -1
			} else if i > j {
				want = 1
			}
			if k, e := Compare(a, b); k != want || e != api.OK {
				t.Errorf("Compare(%v, %v): %d, %d; want %d", a, b, k, e, want)
			}
		}
	}
}

// plainOrder is the order as the chapter says it, by recursion.
func plainOrder(a, b api.Value) int {
	sign := func(less, more bool) int {
		if less {
			return -1
		}
		if more {
			return 1
		}
		return 0
	}
	if a.Kind != b.Kind {
		return sign(a.Kind < b.Kind, true)
	}
	switch a.Kind {
	case api.Bool, api.Int:
		return sign(a.Int < b.Int, a.Int > b.Int)
	case api.Text, api.Bytes:
		return slices.Compare([]byte(a.Text), []byte(b.Text))
	case api.Point:
		if real(a.Point) != real(b.Point) {
			return sign(real(a.Point) < real(b.Point), true)
		}
		return sign(imag(a.Point) < imag(b.Point), imag(a.Point) > imag(b.Point))
	}
	for i := 0; i < len(a.List) && i < len(b.List); i++ {
		if k := plainOrder(a.List[i], b.List[i]); k != 0 {
			return k
		}
	}
	return sign(len(a.List) < len(b.List), len(a.List) > len(b.List))
}

// P1.2: the order, held against the chapter's words.
func TestCompareMany(t *testing.T) {
	values := anyValues(400)
	for _, a := range values {
		for _, b := range values {
			if k, e := Compare(a, b); k != plainOrder(a, b) || e != api.OK {
				t.Fatalf("Compare(%v, %v): %d, %d; want %d", a, b, k, e, plainOrder(a, b))
			}
		}
	}
}

// P1.2: what is unlike ahead counts, though it is deeper than what is unlike behind.
func TestCompareAhead(t *testing.T) {
	for _, c := range []struct {
		a, b api.Value
		want int
	}{
		{list(some(some(num(1))), num(5)), list(some(some(num(2))), num(4)), -1},
		{list(num(5), some(some(num(1)))), list(num(4), some(some(num(2)))), 1},
		{list(some(num(1)), num(1), num(1)), list(some(num(2))), -1},
		{list(some(num(2))), list(some(num(2)), none), -1},
		{pair(list(none, num(1)), list()), pair(list(none, num(1), none), list()), -1},
		{pair(list(num(2)), num(1)), pair(list(num(1), num(1)), num(2)), 1},
		{nested(num(1), 7), nested(num(2), 7), -1},
	} {
		if k, e := Compare(c.a, c.b); k != c.want || e != api.OK {
			t.Errorf("Compare(%v, %v): %d, %d", c.a, c.b, k, e)
		}
	}
}

// P1.2: sorted lists have the same values in their order.
func TestSort(t *testing.T) {
	if l, e := Sort(); len(l) != 0 || e != api.OK {
		t.Errorf("Sort of none: %v, %d", l, e)
	}
	values := append(anyValues(300), ladder()...)
	sorted, e := Sort(values...)
	if e != api.OK || len(sorted) != len(values) || !slices.IsSortedFunc(sorted, plainOrder) {
		t.Fatalf("Sort: %d values, %d", len(sorted), e)
	}
	for _, v := range values {
		alike := func(w api.Value) bool { return same(v, w) }
		if count(values, alike) != count(sorted, alike) {
			t.Errorf("Sort: %v is there another number of times", v)
		}
	}
}

func count(values []api.Value, which func(api.Value) bool) int {
	n := 0
	for _, v := range values {
		if which(v) {
			n++
		}
	}
	return n
}

// P1.2: a copy is the value, in memory of its own.
func TestCopy(t *testing.T) {
	for _, v := range append(rights(), anyValues(200)...) {
		v = twin(v)
		w, e := Copy(v)
		wantValue(t, "Copy", w, e, v)
		taken := map[*api.Value]bool{}
		rooms(taken, v.List)
		if rooms(taken, w.List) {
			t.Errorf("Copy of %v shares memory", v)
		}
		if len(v.Text) > 0 && unsafe.StringData(v.Text) == unsafe.StringData(w.Text) {
			t.Errorf("Copy of %v shares its text", v)
		}
	}
}

// P1.4: two places that are one list in the argument are two in the answer.
func TestCopyOfShared(t *testing.T) {
	part := list(num(1), some(num(2)))
	w, e := Copy(pair(part, part))
	wantValue(t, "Copy", w, e, pair(part, part))
	if rooms(map[*api.Value]bool{}, w.List) {
		t.Error("Copy: two lists share memory")
	}
}

// P1.4: nothing that is handed in is changed, spare room neither.
func TestUntouched(t *testing.T) {
	values := append(append(rights(), wrongs()...), anyValues(100)...)
	for i, v := range values {
		for _, call := range []func(api.Value){
			func(v api.Value) { Check(v) },
			func(v api.Value) { Size(v) },
			func(v api.Value) { Depth(v) },
			func(v api.Value) { Compare(v, v) },
			func(v api.Value) { Sort(v, num(1), v) },
			func(v api.Value) { Copy(v) },
			func(v api.Value) { Parts(v) },
			func(v api.Value) { Plus(v, v) },
			func(v api.Value) { Times(v, v) },
			func(v api.Value) { Conj(v) },
		} {
			w, was := twin(v), twin(v)
			call(w)
			if !untouched(w, was) {
				t.Errorf("value %d is changed", i)
			}
		}
	}
}

// P1.4: the list to be sorted stays as it was, and shares nothing with the answer.
func TestSortUntouched(t *testing.T) {
	part := list(num(3), num(1))
	given := []api.Value{part, some(part), num(2), part, num(9), num(8)}
	first, e := Sort(given[:4]...)
	if e != api.OK || len(first) != 4 || first[0].Kind != api.Int {
		t.Fatalf("Sort: %v, %d", first, e)
	}
	for i, want := range []api.Value{part, some(part), num(2), part, num(9), num(8)} {
		if !same(given[i], want) {
			t.Errorf("place %d is changed: %v", i, given[i])
		}
	}
	second, _ := Sort(given[:4]...)
	if rooms(map[*api.Value]bool{}, first) {
		t.Error("two lists of one answer share memory")
	}
	taken := map[*api.Value]bool{}
	rooms(taken, given)
	if rooms(taken, first) || rooms(taken, second) {
		t.Error("answers share memory")
	}
}
