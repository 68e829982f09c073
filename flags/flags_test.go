package flags

import (
	"fmt"
	"math"
	"testing"

	"bellrope/act"
	"bellrope/api"
	"bellrope/cell"
	"bellrope/site"
)

// is compares what is told of two values.
func is(t *testing.T, what string, got, want any) {
	t.Helper()
	if fmt.Sprint(got) != fmt.Sprint(want) {
		t.Errorf("%s: %v, not %v", what, got, want)
	}
}

// told returns several results as one text.
func told(l ...any) string { return fmt.Sprintln(l...) }

// run performs all acts of a routine and returns their texts and the result.
func run(m *cell.Memory, r api.Routine) string {
	text := ""
	for a, ok := r.Act(); ok; a, ok = r.Act() {
		got, _ := act.Do(m, nil, a)
		r.Take(got)
		text += act.Text(a) + "; "
	}
	res, ok := r.Result()
	r.Take(7)
	again, _ := r.Result()
	if !ok || again != res {
		return "no result"
	}
	return text + fmt.Sprint(int(res.F), res.V)
}

func TestP1501Flag(t *testing.T) {
	p := site.Place{Kind: api.Flags, At: 1}
	for _, c := range []struct {
		kind  int
		mask  uint32
		want  string
		after uint32
	}{
		{Set, 6, "or 1 6; 0 [5 0 0 0]", 7}, {Clear, 6, "and 1 4294967289; 0 [5 0 0 0]", 1}, {Get, 6, "load 1; 0 [5 0 0 0]", 5}, {Any, 6, "load 1; 0 [5 0 0 0]", 5}, {All, 6, "load 1; 7 [0 0 0 0]", 5},
		{All, 5, "load 1; 0 [5 0 0 0]", 5}, {Any, 2, "load 1; 7 [0 0 0 0]", 5}, {Any, 0, "load 1; 7 [0 0 0 0]", 5}, {All, 0, "load 1; 0 [5 0 0 0]", 5}, {Set, 0, "or 1 0; 0 [5 0 0 0]", 5},
		{0, 1, "1 [0 0 0 0]", 5}, {6, 1, "1 [0 0 0 0]", 5}, {-1, 1, "1 [0 0 0 0]", 5}, {math.MaxInt, 1, "1 [0 0 0 0]", 5},
	} {
		m := cell.Of([]uint32{9, 5})
		is(t, fmt.Sprint("Flag ", c.kind, c.mask), told(run(m, New(p, c.kind, c.mask)), m.All()), told(c.want, []uint32{9, c.after}))
	}
	for _, w := range []site.Place{{}, {Kind: api.Flags, Width: 1}, {Kind: api.Flags, Cap: 1}, {Kind: api.Flags, Retry: 1}, {Kind: api.Lock, Width: 1}, {Kind: api.Ring, Cap: 1, Width: 1}} {
		is(t, "wrong", run(nil, New(w, Set, 1)), "1 [0 0 0 0]")
	}
	var none *Flag
	for _, r := range []api.Routine{none, &Flag{}} {
		r.Take(1)
		a, ok := r.Act()
		res, is2 := r.Result()
		is(t, "none", told(a, ok, res, is2), told(api.Act{}, false, api.Result{}, false))
	}
}

func TestP1502Holds(t *testing.T) {
	is(t, "Any", told(Holds(Any, 5, 6), Holds(Any, 5, 2), Holds(Any, 5, 0), Holds(Any, 0, 1<<32-1)), told(true, false, false, false))
	is(t, "All", told(Holds(All, 5, 5), Holds(All, 5, 6), Holds(All, 5, 0), Holds(All, 0, 0), Holds(All, 7, 5)), told(true, false, true, true, true))
	for _, kind := range []int{Set, Clear, Get, 0, 6, -1, math.MinInt} {
		is(t, "others", told(Holds(kind, 0, 1), Holds(kind, 1, 0)), told(true, true))
	}
	is(t, "kinds", told(Set, Clear, Get, Any, All), told(1, 2, 3, 4, 5))
}

func TestP1503Laws(t *testing.T) {
	p := site.Place{Kind: api.Flags}
	x := uint32(2)
	for range 200 {
		x = x*1664525 + 1013904223
		word, mask := x, x*22695477+1
		m := cell.Of([]uint32{word})
		run(m, New(p, Set, mask))
		is(t, "after Set", told(Holds(All, m.All()[0], mask), m.All()[0]&^mask), told(true, word&^mask))
		run(m, New(p, Clear, mask))
		is(t, "after Clear", told(Holds(Any, m.All()[0], mask), m.All()[0]&^mask), told(false, word&^mask))
	}
}
