package four

import (
	"fmt"
	"testing"

	"bellrope/act"
	"bellrope/api"
	"bellrope/cell"
	"bellrope/site"
)

// is compares what is told of two values.
func is(t *testing.T, what string, got, want any) {
	t.Helper()
	if fmt.Sprint(got) != fmt.Sprint(want) {
		t.Errorf("%s: %v, not %v", what, got, want)
	}
}

// told returns several results as one text.
func told(l ...any) string { return fmt.Sprintln(l...) }

// one performs the next act of a routine and returns it.
func one(m *cell.Memory, r api.Routine) (api.Act, bool) {
	a, ok := r.Act()
	if ok {
		got, _ := act.Do(m, nil, a)
		r.Take(got)
	}
	return a, ok
}

// run performs all acts of a routine and returns their texts and the result.
func run(m *cell.Memory, r api.Routine) string {
	text := ""
	for a, ok := one(m, r); ok; a, ok = one(m, r) {
		text += act.Text(a) + "; "
	}
	res, ok := r.Result()
	r.Take(7)
	again, _ := r.Result()
	if !ok || again != res {
		return "no result"
	}
	return text + fmt.Sprint(int(res.F), res.V)
}

// place returns the place of a register at cell 2.
func place(width int) site.Place { return site.Place{Kind: api.Four, At: 2, Width: width} }

// wrong: places of no valid register.
func wrong() []site.Place {
	return []site.Place{{}, {Kind: api.Four}, {Kind: api.Four, Width: 5}, {Kind: api.Four, Width: 1, Cap: 1}, {Kind: api.Four, Width: 1, Retry: 1}, {Kind: api.Lock, Width: 1}, {Kind: api.Ring, Cap: 1, Width: 1}, {Kind: api.Flags}}
}

func TestP1301Write(t *testing.T) {
	m := cell.New(20)
	p := place(2)
	is(t, "first", run(m, NewWrite(p, api.Value{7, 8, 9})), "load 3; load 5; store 12 7; store 13 8; store 5 1; store 2 1; 0 [0 0 0 0]")
	is(t, "second", run(m, NewWrite(p, api.Value{1, 2})), "load 3; load 5; store 10 1; store 11 2; store 5 0; store 2 1; 0 [0 0 0 0]")
	m.Store(3, 1<<32-1)
	m.Store(4, 6)
	is(t, "lowest bits", run(m, NewWrite(p, api.Value{3, 4})), "load 3; load 4; store 8 3; store 9 4; store 4 1; store 2 0; 0 [0 0 0 0]")
	for _, w := range wrong() {
		is(t, "wrong", run(m, NewWrite(w, api.Value{})), "1 [0 0 0 0]")
	}
}

func TestP1302Read(t *testing.T) {
	m := cell.New(20)
	p := place(2)
	m.Store(6, 70)
	m.Store(7, 80)
	is(t, "initial", run(m, NewRead(p)), "load 2; store 3 0; load 4; load 6; load 7; 0 [70 80 0 0]")
	run(m, NewWrite(p, api.Value{7, 8, 9}))
	is(t, "written", run(m, NewRead(p)), "load 2; store 3 1; load 5; load 12; load 13; 0 [7 8 0 0]")
	m.Store(2, 5)
	m.Store(5, 2)
	is(t, "lowest bits", run(m, NewRead(p)), "load 2; store 3 1; load 5; load 10; load 11; 0 [0 0 0 0]")
	for _, w := range wrong() {
		is(t, "wrong", run(m, NewRead(w)), "1 [0 0 0 0]")
	}
}

func TestRoutinesThatAreNone(t *testing.T) {
	var write *Write
	var read *Read
	for _, r := range []api.Routine{write, read, &Write{}, &Read{}} {
		r.Take(1)
		a, ok := r.Act()
		res, is2 := r.Result()
		is(t, "none", told(a, ok, res, is2), told(api.Act{}, false, api.Result{}, false))
	}
}

func TestP1303Now(t *testing.T) {
	m := cell.New(20)
	p := place(2)
	load := func(at int) uint32 {
		w, _ := m.Load(at)
		return w
	}
	for n := range uint32(6) {
		run(m, NewWrite(p, api.Value{n, n + 10, 99}))
		v, ok := Now(p, load)
		is(t, "Now", told(v, ok), told(api.Value{n, n + 10}, true))
		if n%2 == 0 {
			run(m, NewRead(p))
		}
	}
	v, ok := Now(p, nil)
	is(t, "no load", told(v, ok), told(api.Value{}, false))
	v, ok = Now(p, func(at int) uint32 { panic(at) })
	is(t, "a load that panics", told(v, ok), told(api.Value{}, false))
	v, ok = Now(place(1), func(at int) uint32 { return uint32(at)*2 + 1 })
	is(t, "lowest bits", told(v, ok), told(api.Value{19}, true))
	for _, w := range wrong() {
		v, ok := Now(w, load)
		is(t, "wrong", told(v, ok), told(api.Value{}, false))
	}
}

func TestP1304Laws(t *testing.T) {
	p := place(2)
	x := uint32(5)
	for range 400 {
		m := cell.New(20)
		var write, read api.Routine
		var reads map[int]bool // cells that the read uses, once it has loaded the index
		begun, n, last := uint32(0), uint32(0), uint32(0)
		alone := false
		for range 80 {
			x = x*1664525 + 1013904223
			if x>>20%3 > 0 {
				if write == nil {
					n++
					write = NewWrite(p, api.Value{n, n})
					alone = false
				}
				a, _ := one(m, write)
				is(t, "not stored into", a.Op == api.Store && reads[a.At], false)
				if _, ok := write.Result(); ok {
					write, last = nil, n
				}
				continue
			}
			if read == nil {
				read, begun, alone = NewRead(p), last, write == nil
			}
			a, _ := one(m, read)
			if a.Op == api.Load && (a.At == 4 || a.At == 5) {
				b, _ := read.Act()
				reads = map[int]bool{b.At: true, b.At + 1: true}
			}
			if res, ok := read.Result(); ok {
				got := res.V[0]
				is(t, "complete", res.V, api.Value{got, got})
				is(t, "not too old, not too new", got >= begun && got <= n, true)
				if alone {
					is(t, "the last one", got, begun)
				}
				read, reads = nil, nil
			}
		}
	}
}
