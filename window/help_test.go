package window

import (
	"math"
	"math/big"
	"math/rand"
	"slices"
	"testing"

	"watershed/api"
)

const (
	least = math.MinInt
	most  = math.MaxInt
	far   = 2*api.MaxTime + 1 // the greatest To
)

func fixed(size, offset int) Fn           { return Fn{Kind: Fixed, Size: size, Offset: offset} }
func sliding(size, period, offset int) Fn { return Fn{Sliding, size, period, offset} }
func sessions(size int) Fn                { return Fn{Kind: Sessions, Size: size} }

// edges are numbers at and around all that a windowing's field or a time may be.
func edges() []int {
	var all []int
	for _, n := range []int{0, 3, 16, 32, 48, api.MaxTime / 16, api.MaxTime / 2, api.MaxTime, far} {
		all = append(all, n-1, n, n+1)
	}
	return append(all, least, least+1, -api.MaxTime-1, -api.MaxTime, -16, -2, 7, api.MaxTime*16, 1<<59, 1<<60, 1<<62, most-1, most)
}

// everyFn goes through all windowings whose other fields are edges, of each kind and of kinds that there are not.
func everyFn(do func(Fn)) {
	numbers := edges()
	for kind := -2; kind < 7; kind++ {
		for _, size := range numbers {
			for _, period := range numbers {
				for _, offset := range numbers {
					do(Fn{kind, size, period, offset})
				}
			}
		}
	}
}

// plainFn: is a windowing right, as the chapter says it? Its numbers are the whole ones, without an end.
func plainFn(f Fn) bool {
	size, period, offset := big.NewInt(int64(f.Size)), big.NewInt(int64(f.Period)), big.NewInt(int64(f.Offset))
	from := func(n *big.Int, low int64) bool { return n.Cmp(big.NewInt(low)) >= 0 }
	ahead := func(n, m *big.Int) bool { return n.Cmp(m) < 0 }
	end := big.NewInt(1 << 20)
	switch f.Kind {
	case 0:
		return size.Sign() == 0 && period.Sign() == 0 && offset.Sign() == 0
	case 1:
		return from(size, 1) && !ahead(end, size) && period.Sign() == 0 && from(offset, 0) && ahead(offset, size)
	case 2:
		many := new(big.Int).Mul(period, big.NewInt(16))
		return from(period, 1) && !ahead(end, period) && !ahead(size, period) && !ahead(end, size) && !ahead(many, size) && from(offset, 0) && ahead(offset, period)
	case 3:
		return from(size, 1) && !ahead(end, size) && period.Sign() == 0 && offset.Sign() == 0
	}
	return false
}

// plainWindow: is a window right, as the chapter says it?
func plainWindow(w Window) bool {
	return w.From >= -1<<20 && w.From < w.To && w.To <= 1<<21+1
}

// plainAssign tells the windows of a right windowing that have t: it looks at each place where one could begin.
func plainAssign(f Fn, t int) []Window {
	switch f.Kind {
	case 0:
		return []Window{{0, 1<<20 + 1}}
	case 3:
		return []Window{{t, t + f.Size}}
	}
	each := f.Period
	if f.Kind == 1 {
		each = f.Size
	}
	var all []Window
	for from := t - f.Size + 1; from <= t; from++ {
		if (from-f.Offset)%each == 0 {
			all = append(all, Window{from, from + f.Size})
		}
	}
	return all
}

// plainMerge makes one of any two that have a number in common, again and again.
func plainMerge(windows []Window) []Window {
	all := slices.Clone(windows)
	for i := 0; i < len(all); i++ {
		for j := i + 1; j < len(all); j++ {
			if max(all[i].From, all[j].From) < min(all[i].To, all[j].To) {
				all[i] = Window{min(all[i].From, all[j].From), max(all[i].To, all[j].To)}
				return plainMerge(slices.Delete(all, j, j+1))
			}
		}
	}
	return plainSort(all)
}

// plainSort takes the first of those that are left, again and again.
func plainSort(windows []Window) []Window {
	left := slices.Clone(windows)
	var all []Window
	for len(left) > 0 {
		first := 0
		for i, w := range left {
			if w.To < left[first].To || w.To == left[first].To && w.From < left[first].From {
				first = i
			}
		}
		all = append(all, left[first])
		left = slices.Delete(left, first, first+1)
	}
	return all
}

// rightFns are right windowings: small ones, all at their ends, and any others.
func rightFns() []Fn {
	all := []Fn{{}}
	for size := 1; size < 20; size++ {
		all = append(all, sessions(size))
		for offset := range size {
			all = append(all, fixed(size, offset))
		}
		for period := 1; period <= size; period++ {
			for offset := range period {
				if size <= 16*period {
					all = append(all, sliding(size, period, offset))
				}
			}
		}
	}
	r := rand.New(rand.NewSource(7))
	for range 20 {
		size, period := 1+r.Intn(api.MaxTime), 1+r.Intn(api.MaxTime/16)
		all = append(all, sessions(size), fixed(size, r.Intn(size)), sliding(period+r.Intn(15*period+1), period, r.Intn(period)))
	}
	return append(all, ends()...)
}

// ends are right windowings at the ends of what they may be.
func ends() []Fn {
	const end = api.MaxTime
	return []Fn{
		sessions(1), sessions(end), fixed(1, 0), fixed(end, 0), fixed(end, 1), fixed(end, end-1), fixed(end-1, end-2),
		sliding(1, 1, 0), sliding(16, 1, 0), sliding(32, 2, 0), sliding(32, 2, 1), sliding(31, 2, 1), sliding(15, 1, 0), sliding(end, end, 0), sliding(end, end, end-1), sliding(end, end-1, end-2), sliding(end, end/2, 0), sliding(end, end/2, end/2-1),
		sliding(end, end/16, 0), sliding(end, end/16, end/16-1), sliding(end-1, end/16, 5), sliding(end, end/16+1, end/16), sliding(end-1, end-1, end-2),
	}
}

// rightWindows are right windows, at the ends too.
func rightWindows() []Window {
	const end = api.MaxTime
	return []Window{{0, 1}, {0, 10}, {5, 15}, {-1, 0}, {-1, 1}, {-7, 3}, {-20, -10}, {0, end}, {0, end + 1}, {-end, -end + 1}, {-end, 0}, {-end, far}, {-end + 1, far}, {-end, far - 1}, {far - 1, far}, {far - 2, far}, {end - 1, end}, {end - 1, end + 1}, {end, end + 1}, {end, end + 2}, {end + 1, end + 2}, {end, far}, {end + 5, end + 9}, {3, end + 2}}
}

// wrongWindows are windows that aren't right.
func wrongWindows() []Window {
	const end = api.MaxTime
	return []Window{{}, {1, 1}, {1, 0}, {0, -1}, {5, 3}, {-1, -1}, {-1, -2}, {-end, -end}, {-end - 1, -end}, {-end - 1, 0}, {-end - 1, 5}, {-end - 1, far}, {-end, far + 1}, {0, far + 1}, {far, far}, {far, far + 1}, {far + 1, far + 2}, {far, far - 1}, {least, most}, {most, least}, {least, least}, {most, most}, {least, 5}, {5, most}, {5, least}, {most, 5}, {-end, least}, {most, far}, {most - 1, most}, {least, least + 1}}
}

// anyWindows tells so many right windows near one another.
func anyWindows(r *rand.Rand, many, span, size int) []Window {
	var all []Window
	for range many {
		from := r.Intn(2*span) - span
		all = append(all, Window{from, from + 1 + r.Intn(size)})
	}
	return all
}

func wantWindows(t *testing.T, what any, got []Window, e api.Errno, want []Window) {
	t.Helper()
	if e != api.OK || !slices.Equal(got, want) {
		t.Errorf("%v: %v, %d; want %v", what, got, e, want)
	}
}

func wantNone(t *testing.T, what any, got []Window, e, want api.Errno) {
	t.Helper()
	if e != want || len(got) != 0 {
		t.Errorf("%v: %v, %d; want %d", what, got, e, want)
	}
}
