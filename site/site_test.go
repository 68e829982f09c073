package site

import (
	"fmt"
	"math"
	"testing"

	"bellrope/api"
)

// is compares what is told of two values.
func is(t *testing.T, what string, got, want any) {
	t.Helper()
	if fmt.Sprint(got) != fmt.Sprint(want) {
		t.Errorf("%s: %v, not %v", what, got, want)
	}
}

// told returns several results as one text.
func told(l ...any) string { return fmt.Sprintln(l...) }

// object returns an object.
func thing(kind, cap, width, retry int) api.Object {
	return api.Object{Kind: kind, Cap: cap, Width: width, Retry: retry, Init: api.Value{11, 12, 13, 14}}
}

// wrong: objects that are not valid.
func wrong() []api.Object {
	return []api.Object{{}, thing(0, 0, 1, 0), thing(5, 0, 1, 0), thing(-1, 0, 0, 0), thing(api.Ring, 0, 1, 0), thing(api.Ring, 3, 1, 0), thing(api.Ring, 128, 1, 0), thing(api.Ring, math.MinInt, 1, 0),
		thing(api.Ring, 2, 0, 0), thing(api.Ring, 2, 5, 0), thing(api.Ring, 2, 1, 1), thing(api.Four, 1, 1, 0), thing(api.Four, 0, 0, 0), thing(api.Four, 0, 1, 1), thing(api.Lock, 0, 1, 9),
		thing(api.Lock, 0, 1, -1), thing(api.Lock, 2, 1, 0), thing(api.Lock, 0, math.MaxInt, 0), thing(api.Flags, 0, 1, 0), thing(api.Flags, 1, 0, 0), thing(api.Flags, 0, 0, 1)}
}

// some: valid objects with their sizes.
func some() ([]api.Object, []int) {
	return []api.Object{thing(api.Ring, 2, 3, 0), thing(api.Ring, 64, 4, 0), thing(api.Ring, 1, 1, 0), thing(api.Four, 0, 2, 0), thing(api.Lock, 0, 4, 8), thing(api.Lock, 0, 1, 0), thing(api.Flags, 0, 0, 0)},
		[]int{8, 258, 3, 12, 5, 2, 1}
}

func TestP1101RightSize(t *testing.T) {
	l, sizes := some()
	for i, o := range l {
		is(t, "Right", told(Right(o), Size(o)), told(true, sizes[i]))
		o.From, o.To = -99, math.MaxInt
		is(t, "contexts are not checked", told(Right(o), Size(o)), told(true, sizes[i]))
	}
	for _, o := range wrong() {
		is(t, fmt.Sprint("wrong ", o), told(Right(o), Size(o)), told(false, 0))
	}
}

func TestP1102Of(t *testing.T) {
	places, total := Of([]api.Object{thing(api.Ring, 2, 3, 0), thing(api.Ring, 3, 3, 0), thing(api.Lock, 0, 2, 5), thing(api.Flags, 0, 0, 0), {}})
	is(t, "Of", told(places, total), told([]Place{{api.Ring, 0, 2, 3, 0}, {At: 8}, {api.Lock, 8, 0, 2, 5}, {Kind: api.Flags, At: 11}, {At: 12}}, 12))
	places, total = Of(nil)
	is(t, "Of none", told(places, total), told([]Place{}, 0))
}

func TestP1103Cell(t *testing.T) {
	for _, c := range []struct {
		p             Place
		part, i, w, c int
	}{
		{Place{api.Ring, 10, 2, 3, 0}, Head, 9, -9, 10}, {Place{api.Ring, 10, 2, 3, 0}, Tail, -1, 9, 11}, {Place{api.Ring, 10, 2, 3, 0}, Data, 0, 0, 12},
		{Place{api.Ring, 0, 2, 3, 0}, Data, 1, 1, 6}, {Place{api.Ring, 10, 2, 3, 0}, Data, 1, 2, 17}, {Place{api.Ring, 10, 2, 3, 0}, Data, 2, 0, -1},
		{Place{api.Ring, 10, 2, 3, 0}, Data, 0, 3, -1}, {Place{api.Ring, 10, 2, 3, 0}, Data, -1, 0, -1}, {Place{api.Ring, 10, 2, 3, 0}, Data, 0, -1, -1},
		{Place{api.Ring, 10, 2, 3, 0}, Data, math.MaxInt, math.MinInt, -1}, {Place{api.Ring, 10, 2, 3, 0}, Latest, 0, 0, -1}, {Place{api.Ring, 10, 2, 3, 0}, Word, 0, 0, -1},
		{Place{api.Four, 5, 0, 2, 0}, Latest, 7, 7, 5}, {Place{api.Four, 5, 0, 2, 0}, Reading, 7, 7, 6}, {Place{api.Four, 5, 0, 2, 0}, Slot, 0, 9, 7}, {Place{api.Four, 5, 0, 2, 0}, Slot, 1, 9, 8},
		{Place{api.Four, 5, 0, 2, 0}, Slot, 2, 0, -1}, {Place{api.Four, 5, 0, 2, 0}, Slot, -1, 0, -1}, {Place{api.Four, 5, 0, 2, 0}, Data, 0, 0, 9}, {Place{api.Four, 5, 0, 2, 0}, Data, 3, 1, 16},
		{Place{api.Four, 5, 0, 2, 0}, Data, 4, 0, -1}, {Place{api.Four, 5, 0, 2, 0}, Head, 0, 0, -1}, {Place{api.Four, 5, 0, 2, 0}, Seq, 0, 0, -1},
		{Place{api.Lock, 5, 0, 2, 3}, Seq, 1, 1, 5}, {Place{api.Lock, 5, 0, 2, 3}, Data, -7, 1, 7}, {Place{api.Lock, 5, 0, 2, 3}, Data, 0, 2, -1}, {Place{api.Lock, 5, 0, 2, 3}, Slot, 0, 0, -1},
		{Place{api.Flags, 5, 0, 0, 0}, Word, 3, 3, 5}, {Place{api.Flags, 5, 0, 0, 0}, Data, 0, 0, -1}, {Place{api.Flags, 5, 0, 0, 0}, Tail, 0, 0, -1},
		{Place{}, Head, 0, 0, -1}, {Place{api.Ring, 0, 3, 1, 0}, Head, 0, 0, -1}, {Place{api.Ring, 0, 2, 1, 0}, 0, 0, 0, -1}, {Place{api.Ring, 0, 2, 1, 0}, 9, 0, 0, -1}, {Place{api.Flags, 0, 0, 0, 0}, math.MinInt, 0, 0, -1},
	} {
		is(t, fmt.Sprint("Cell ", c.p, c.part, c.i, c.w), Cell(c.p, c.part, c.i, c.w), c.c)
	}
	is(t, "parts", told(Head, Tail, Data, Latest, Reading, Slot, Seq, Word), told(1, 2, 3, 4, 5, 6, 7, 8))
}

func TestP1104Start(t *testing.T) {
	m := Start([]api.Object{thing(api.Ring, 1, 2, 0), thing(api.Four, 0, 2, 0), thing(api.Ring, 3, 2, 0), thing(api.Lock, 0, 3, 0), thing(api.Flags, 0, 0, 0)})
	is(t, "Start", m.All(), []int{0, 0, 0, 0, 0, 0, 0, 0, 11, 12, 0, 0, 0, 0, 0, 0, 0, 11, 12, 13, 11})
	is(t, "Start none", Start(nil).Len(), 0)
	many := make([]api.Object, 300)
	for i := range many {
		many[i] = thing(api.Ring, 64, 4, 0)
	}
	many = append(many, thing(api.Flags, 0, 0, 0))
	is(t, "Start of too many", Start(many).Len(), api.MaxCells)
}

func TestP1105Laws(t *testing.T) {
	l, _ := some()
	places, total := Of(l)
	owner := make([]int, total)
	for n, p := range places {
		for part := Head; part <= Word; part++ {
			mine := map[int]int{}
			for i := range 64 {
				for w := range 4 {
					if at := Cell(p, part, i, w); at >= 0 {
						mine[at]++
					}
				}
			}
			for at := range mine {
				is(t, "disjoint", owner[at], 0)
				owner[at] = n + 1
			}
		}
	}
	for at, n := range owner {
		is(t, "owned", n > 0 && at >= places[n-1].At && at < places[n-1].At+Size(l[n-1]), true)
	}
}
