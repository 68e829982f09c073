package ring

import (
	"fmt"
	"testing"

	"bellrope/act"
	"bellrope/api"
	"bellrope/cell"
	"bellrope/site"
)

// is compares what is told of two values.
func is(t *testing.T, what string, got, want any) {
	t.Helper()
	if fmt.Sprint(got) != fmt.Sprint(want) {
		t.Errorf("%s: %v, not %v", what, got, want)
	}
}

// told returns several results as one text.
func told(l ...any) string { return fmt.Sprintln(l...) }

// run performs all acts of a routine and returns their texts and the result.
func run(m *cell.Memory, r api.Routine) string {
	text := ""
	for {
		a, ok := r.Act()
		if !ok {
			break
		}
		if _, early := r.Result(); early {
			return "result while an act remains"
		}
		got, _ := act.Do(m, nil, a)
		r.Take(got)
		text += act.Text(a) + "; "
	}
	res, ok := r.Result()
	r.Take(7)
	again, _ := r.Result()
	if !ok || again != res {
		return "no result"
	}
	return text + fmt.Sprint(int(res.F), res.V)
}

// place returns the place of a ring at cell 3.
func place(cap, width int) site.Place {
	return site.Place{Kind: api.Ring, At: 3, Cap: cap, Width: width}
}

// wrong: places of no valid ring.
func wrong() []site.Place {
	return []site.Place{{}, {Kind: api.Ring, Cap: 3, Width: 1}, {Kind: api.Ring, Cap: 2}, {Kind: api.Ring, Cap: 128, Width: 1}, {Kind: api.Ring, Cap: 1, Width: 5}, {Kind: api.Ring, Cap: 1, Width: 1, Retry: 1}, {Kind: api.Lock, Width: 1}, {Kind: api.Four, Width: 1}, {Kind: api.Flags}}
}

func TestP1201Push(t *testing.T) {
	m := cell.New(20)
	p := place(2, 3)
	is(t, "first", run(m, NewPush(p, api.Value{7, 8, 9, 10})), "load 4; load 3; store 5 7; store 6 8; store 7 9; store 4 1; 0 [0 0 0 0]")
	is(t, "second", run(m, NewPush(p, api.Value{1, 2, 3})), "load 4; load 3; store 8 1; store 9 2; store 10 3; store 4 2; 0 [0 0 0 0]")
	is(t, "full", run(m, NewPush(p, api.Value{1})), "load 4; load 3; 6 [0 0 0 0]")
	m.Store(3, 1<<32-1)
	m.Store(4, 1<<32-1)
	is(t, "wraps", run(m, NewPush(p, api.Value{1, 2, 3})), "load 4; load 3; store 8 1; store 9 2; store 10 3; store 4 0; 0 [0 0 0 0]")
	m.Store(3, 5)
	m.Store(4, 4)
	is(t, "ahead by very much", run(m, NewPush(p, api.Value{1})), "load 4; load 3; 6 [0 0 0 0]")
	for _, w := range wrong() {
		is(t, "wrong", run(m, NewPush(w, api.Value{})), "1 [0 0 0 0]")
	}
}

func TestP1202Pop(t *testing.T) {
	m := cell.New(20)
	p := place(2, 3)
	is(t, "empty", run(m, NewPop(p)), "load 3; load 4; 7 [0 0 0 0]")
	run(m, NewPush(p, api.Value{7, 8, 9, 10}))
	run(m, NewPush(p, api.Value{1, 2, 3}))
	is(t, "first", run(m, NewPop(p)), "load 3; load 4; load 5; load 6; load 7; store 3 1; 0 [7 8 9 0]")
	is(t, "second", run(m, NewPop(p)), "load 3; load 4; load 8; load 9; load 10; store 3 2; 0 [1 2 3 0]")
	is(t, "empty again", run(m, NewPop(p)), "load 3; load 4; 7 [0 0 0 0]")
	m.Store(3, 1<<32-1)
	is(t, "wraps", run(m, NewPop(p)), "load 3; load 4; load 8; load 9; load 10; store 3 0; 0 [1 2 3 0]")
	for _, w := range wrong() {
		is(t, "wrong", run(m, NewPop(w)), "1 [0 0 0 0]")
	}
}

func TestRoutinesThatAreNone(t *testing.T) {
	var push *Push
	var pop *Pop
	for _, r := range []api.Routine{push, pop, &Push{}, &Pop{}} {
		r.Take(1)
		a, ok := r.Act()
		res, is2 := r.Result()
		is(t, "none", told(a, ok, res, is2), told(api.Act{}, false, api.Result{}, false))
	}
	x := NewPush(place(2, 1), api.Value{})
	a, _ := x.Act()
	b, _ := x.Act()
	is(t, "Act changes nothing", a, b)
}

func TestP1203ManyRoom(t *testing.T) {
	is(t, "Many", told(Many(0, 0), Many(2, 5), Many(1<<32-1, 1), Many(1, 0)), told(0, 3, 2, uint32(1<<32-1)))
	is(t, "Room", told(Room(place(4, 1), 0), Room(place(4, 1), 6), Room(place(1, 1), 9), Room(place(64, 4), 1<<32-1)), told(0, 2, 0, 63))
	for _, w := range wrong() {
		is(t, "wrong", Room(w, 1), -1)
	}
}

func TestP1204Laws(t *testing.T) {
	for _, start := range []uint32{0, 5, 1<<31 - 2, 1<<32 - 3} {
		for _, size := range []int{1, 2, 8} {
			p, m := place(size, 2), cell.New(40)
			m.Store(3, start)
			m.Store(4, start)
			var queue []uint32
			x := start + 3
			for n := range uint32(200) {
				x = x*1664525 + 1013904223
				if x>>16%5 < 3 {
					got := run(m, NewPush(p, api.Value{n, n + 1}))
					full := got[len(got)-11] == '6'
					is(t, "full", full, len(queue) == size)
					if !full {
						queue = append(queue, n)
					}
					continue
				}
				got := run(m, NewPop(p))
				if len(queue) == 0 {
					is(t, "empty", got[len(got)-11:], "7 [0 0 0 0]")
					continue
				}
				want := fmt.Sprintf("0 [%d %d 0 0]", queue[0], queue[0]+1)
				is(t, "first", got[len(got)-len(want):], want)
				queue = queue[1:]
			}
		}
	}
}
