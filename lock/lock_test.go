package lock

import (
	"fmt"
	"math"
	"slices"
	"testing"

	"bellrope/act"
	"bellrope/api"
	"bellrope/cell"
	"bellrope/site"
)

// is compares what is told of two values.
func is(t *testing.T, what string, got, want any) {
	t.Helper()
	if fmt.Sprint(got) != fmt.Sprint(want) {
		t.Errorf("%s: %v, not %v", what, got, want)
	}
}

// told returns several results as one text.
func told(l ...any) string { return fmt.Sprintln(l...) }

// one performs the next act of a routine and returns it.
func one(m *cell.Memory, r api.Routine) (api.Act, bool) {
	a, ok := r.Act()
	if ok {
		got, _ := act.Do(m, nil, a)
		r.Take(got)
	}
	return a, ok
}

// run performs all acts of a routine and returns their texts and the result.
func run(m *cell.Memory, r api.Routine) string {
	text := ""
	for a, ok := one(m, r); ok; a, ok = one(m, r) {
		text += act.Text(a) + "; "
	}
	res, ok := r.Result()
	r.Take(7)
	again, _ := r.Result()
	if !ok || again != res {
		return "no result"
	}
	return text + fmt.Sprint(int(res.F), res.V)
}

// place returns the place of a lock at cell 2.
func place(width int) site.Place { return site.Place{Kind: api.Lock, At: 2, Width: width, Retry: 3} }

// wrong: places of no valid lock.
func wrong() []site.Place {
	return []site.Place{{}, {Kind: api.Lock}, {Kind: api.Lock, Width: 5}, {Kind: api.Lock, Width: 1, Cap: 1}, {Kind: api.Lock, Width: 1, Retry: 9}, {Kind: api.Four, Width: 1}, {Kind: api.Ring, Cap: 1, Width: 1}, {Kind: api.Flags}}
}

func TestP1401Write(t *testing.T) {
	m := cell.New(9)
	is(t, "even", run(m, NewWrite(place(2), api.Value{7, 8, 9})), "load 2; store 2 1; store 3 7; store 4 8; store 2 2; 0 [0 0 0 0]")
	m.Store(2, 5)
	is(t, "odd", run(m, NewWrite(place(1), api.Value{1})), "load 2; store 2 5; store 3 1; store 2 6; 0 [0 0 0 0]")
	m.Store(2, 1<<32-2)
	is(t, "wraps", run(m, NewWrite(place(1), api.Value{1})), "load 2; store 2 4294967295; store 3 1; store 2 0; 0 [0 0 0 0]")
	m.Store(2, 1<<32-1)
	is(t, "odd, wraps", run(m, NewWrite(place(1), api.Value{1})), "load 2; store 2 4294967295; store 3 1; store 2 0; 0 [0 0 0 0]")
	for _, w := range wrong() {
		is(t, "wrong", run(m, NewWrite(w, api.Value{})), "1 [0 0 0 0]")
	}
}

func TestP1402Read(t *testing.T) {
	m := cell.Of([]uint32{0, 0, 4, 70, 80})
	is(t, "even", run(m, NewRead(place(2), 0)), "load 2; load 3; load 4; load 2; 0 [70 80 0 0]")
	m.Store(2, 3)
	is(t, "odd", run(m, NewRead(place(2), 0)), "load 2; 8 [0 0 0 0]")
	is(t, "odd, again", run(m, NewRead(place(2), 1)), "load 2; load 2; 8 [0 0 0 0]")
	m.Store(2, 4)
	x := NewRead(place(2), 1)
	one(m, x)
	one(m, x)
	m.Store(2, 6)
	m.Store(3, 71)
	is(t, "changed", run(m, x), "load 4; load 2; load 2; load 3; load 4; load 2; 0 [71 80 0 0]")
	x = NewRead(place(1), 1)
	for _, got := range []uint32{4, 9, 5, 7} {
		x.Take(got)
	}
	res, ok := x.Result()
	is(t, "changed, then odd", told(res.F, res.V, ok), told(api.Busy, api.Value{}, true))
	for _, w := range wrong() {
		is(t, "wrong", run(m, NewRead(w, 0)), "1 [0 0 0 0]")
	}
	for _, again := range []int{-1, 9, math.MinInt, math.MaxInt} {
		is(t, "wrong again", run(m, NewRead(place(2), again)), "1 [0 0 0 0]")
	}
	m.Store(2, 1)
	is(t, "most tries", len(run(m, NewRead(place(2), 8))), 9*len("load 2; ")+len("8 [0 0 0 0]"))
}

func TestRoutinesThatAreNone(t *testing.T) {
	var write *Write
	var read *Read
	for _, r := range []api.Routine{write, read, &Write{}, &Read{}} {
		r.Take(1)
		a, ok := r.Act()
		res, is2 := r.Result()
		is(t, "none", told(a, ok, res, is2), told(api.Act{}, false, api.Result{}, false))
	}
}

func TestP1403Tries(t *testing.T) {
	m := cell.Of([]uint32{0, 0, 3, 70})
	x := NewRead(place(1), 2)
	is(t, "before the first act", x.Tries(), 0)
	for n := range 3 {
		one(m, x)
		is(t, "tries", x.Tries(), n+1)
	}
	x.Take(0)
	is(t, "at the end", x.Tries(), 3)
	m.Store(2, 0)
	x = NewRead(place(1), 2)
	run(m, x)
	var none *Read
	is(t, "others", told(x.Tries(), none.Tries(), NewRead(place(1), 9).Tries(), NewRead(site.Place{}, 0).Tries()), told(1, 0, 0, 0))
}

func TestP1404Laws(t *testing.T) {
	p := place(3)
	x := uint32(9)
	for range 300 {
		m := cell.New(9)
		var write api.Routine
		var read *Read
		var written []bool // for each try, whether a write was in progress during it
		n := uint32(0)
		for range 100 {
			x = x*1664525 + 1013904223
			if x>>20%4 == 0 {
				if write == nil {
					n++
					write = NewWrite(p, api.Value{n, n, n})
				}
				if read != nil && read.Tries() > 0 && len(written) == read.Tries() {
					written[len(written)-1] = true
				}
				one(m, write)
				if _, ok := write.Result(); ok {
					write = nil
				}
				continue
			}
			if read == nil {
				read, written = NewRead(p, int(x>>8%4)), nil
			}
			one(m, read)
			if read.Tries() > len(written) {
				written = append(written, write != nil)
			}
			res, ok := read.Result()
			if ok && res.F == api.OK {
				is(t, "complete", told(res.V, res.V[0] <= n), told(api.Value{res.V[0], res.V[0], res.V[0]}, true))
			} else if ok {
				is(t, "busy only with writes", told(res.F, slices.Contains(written, false)), told(api.Busy, false))
			}
			if ok {
				read = nil
			}
		}
	}
}
