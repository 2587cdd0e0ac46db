package pane

import (
	"math/rand"
	"slices"
	"testing"

	"watershed/api"
)

// P9.3: panes that are told by hand.
func TestCheck(t *testing.T) {
	for _, c := range []struct {
		panes []Info
		want  int
		e     api.Errno
	}{
		{nil, 0, api.OK}, {[]Info{}, 0, api.OK},
		{[]Info{early(0)}, 1, api.OK}, {[]Info{onTime(0)}, 1, api.OK}, {[]Info{late(0)}, 1, api.OK}, {[]Info{last(early(0))}, 1, api.OK}, {[]Info{last(onTime(0))}, 1, api.OK}, {[]Info{last(late(0))}, 1, api.OK},
		{[]Info{early(0), early(1), onTime(2), last(late(3))}, 4, api.OK}, {[]Info{early(0), late(1)}, 2, api.OK}, {[]Info{early(0), last(early(1))}, 2, api.OK},
		{[]Info{early(0), onTime(2)}, 1, api.ErrPane}, {[]Info{early(0), early(2)}, 1, api.ErrPane}, {[]Info{early(0), early(1), early(3), early(4)}, 2, api.ErrPane},
		{[]Info{early(0), early(0)}, 1, api.ErrPane}, {[]Info{early(0), early(1), early(1), early(2)}, 2, api.ErrPane}, {[]Info{early(0), early(1), early(0)}, 2, api.ErrPane}, {[]Info{{}, {}}, 1, api.ErrPane},
		{[]Info{early(1)}, 0, api.ErrPane}, {[]Info{early(1), early(2)}, 0, api.ErrPane}, {[]Info{early(-1), early(0)}, 0, api.ErrPane}, {[]Info{late(2)}, 0, api.ErrPane}, {[]Info{early(1), early(0)}, 0, api.ErrPane},
		{[]Info{onTime(0), early(1)}, 1, api.ErrPane}, {[]Info{onTime(0), onTime(1)}, 1, api.ErrPane}, {[]Info{early(0), onTime(1), late(2), onTime(3)}, 3, api.ErrPane}, {[]Info{early(0), onTime(1), late(2), early(3)}, 3, api.ErrPane}, {[]Info{late(0), onTime(1)}, 1, api.ErrPane}, {[]Info{late(0), early(1)}, 1, api.ErrPane}, {[]Info{onTime(0), late(1), onTime(2), late(3)}, 2, api.ErrPane},
		{[]Info{last(early(0)), early(1)}, 1, api.ErrPane}, {[]Info{last(early(0)), onTime(1)}, 1, api.ErrPane}, {[]Info{last(onTime(0)), late(1)}, 1, api.ErrPane}, {[]Info{onTime(0), last(late(1)), late(2)}, 2, api.ErrPane}, {[]Info{onTime(0), last(late(1)), last(late(2))}, 2, api.ErrPane}, {[]Info{early(0), last(early(1)), late(2), late(3)}, 2, api.ErrPane},
	} {
		wantCheck(t, c.panes, c.want, c.e)
	}
}

// wrongs are panes that can't stand at a place of a line of Late ones.
func wrongs(place int) []Info {
	var all []Info
	for _, index := range []int{place - 1, place + 1, place + 2, -1 - place, place + 1<<32, least, most, most - 1} {
		all = append(all, late(index), last(late(index)))
	}
	for _, timing := range wrongTimings() {
		all = append(all, Info{place, timing, false}, Info{place, timing, true}, Info{timing, timing, false})
	}
	return all
}

// P9.3: one fault at the first, a middle or the last place is found there, whatever is behind it; two faults at the first of them.
func TestCheckFaults(t *testing.T) {
	const many = 7
	var line []Info
	for i := range many {
		line = append(line, late(i))
	}
	wantCheck(t, line, many, api.OK)
	for at := range many {
		for _, p := range wrongs(at) {
			panes := slices.Clone(line)
			panes[at] = p
			wantCheck(t, panes, at, api.ErrPane)
			wantCheck(t, panes[:at+1], at, api.ErrPane)
			wantCheck(t, panes[:at], at, api.OK)
			panes[many-1] = Info{least, most, true}
			wantCheck(t, panes, at, api.ErrPane)
		}
		if at > 0 {
			panes := slices.Clone(line)
			panes[at] = onTime(at)
			wantCheck(t, panes, at, api.ErrPane)
			panes[at] = last(early(at))
			wantCheck(t, panes, at, api.ErrPane)
		}
		if at < many-1 {
			panes := slices.Clone(line)
			panes[at].Last = true
			wantCheck(t, panes, at+1, api.ErrPane)
		}
	}
}

// infos are panes that may be looked for at a place: numbers and timings on both sides of what may be.
func infos(place int) []Info {
	var all []Info
	for index := place - 1; index <= place+1; index++ {
		for timing := -1; timing < 4; timing++ {
			all = append(all, Info{index, timing, false}, Info{index, timing, true})
		}
	}
	return all
}

// P9.3: all rows of panes are right just as far as the chapter says.
func TestCheckPlain(t *testing.T) {
	rights := map[int]int{}
	look := func(panes []Info) {
		at, e := plainCheck(panes)
		wantCheck(t, panes, at, e)
		if e == api.OK {
			rights[len(panes)]++
		}
	}
	grow(3, infos, look)
	if rights[0] != 1 || rights[1] != 6 || rights[2] != 10 || rights[3] != 14 {
		t.Errorf("right ones: %v", rights)
	}
	r := rand.New(rand.NewSource(93))
	for i := range 3000 {
		var panes []Info
		for place := range 1 + i%20 {
			p := Info{place, r.Intn(3) * r.Intn(3) / 2, r.Intn(60) == 0}
			if r.Intn(40) == 0 {
				p = infos(place)[r.Intn(30)]
			}
			panes = append(panes, p)
		}
		look(panes)
		slices.SortStableFunc(panes, func(p, q Info) int { return p.Timing - q.Timing })
		for place := range panes {
			panes[place].Index = place
		}
		look(panes)
	}
}

// P9.3: a long row of panes is looked through to its end.
func TestCheckMany(t *testing.T) {
	const many = 200_000
	var panes []Info
	for i := range many {
		panes = append(panes, early(i))
	}
	wantCheck(t, panes, many, api.OK)
	panes[many-1].Index = many
	wantCheck(t, panes, many-1, api.ErrPane)
}

// P9.3: what is handed in to Check stays as it was, its spare room too, right or wrong; asked again it tells the same.
func TestCheckUntouched(t *testing.T) {
	for _, panes := range [][]Info{
		{}, {early(0)}, {early(0), early(1), onTime(2), last(late(3))}, {early(0), onTime(2)}, {last(onTime(0)), late(1), late(7)}, {{most, least, true}, early(1)}, {early(0), {1, 3, true}, late(2)},
	} {
		room := slices.Concat(panes, []Info{{4711, 4712, true}, {}, {0, 1, false}})
		given := room[:len(panes)]
		before := slices.Clone(room)
		at, e := Check(given...)
		if !slices.Equal(room, before) {
			t.Errorf("%v: now %v", before, room)
		}
		for i := range room {
			room[i] = Info{4713, 4714, true}
		}
		wantCheck(t, panes, at, e)
	}
}
