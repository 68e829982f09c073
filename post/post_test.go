package post

import (
	"fmt"
	"math"
	"testing"

	"bellrope/act"
	"bellrope/api"
	"bellrope/cell"
	"bellrope/gate"
	"bellrope/ring"
	"bellrope/site"
)

// is compares what is told of two values.
func is(t *testing.T, what string, got, want any) {
	t.Helper()
	if fmt.Sprint(got) != fmt.Sprint(want) {
		t.Errorf("%s: %v, not %v", what, got, want)
	}
}

// told returns several results as one text.
func told(l ...any) string { return fmt.Sprintln(l...) }

// run performs all acts of a routine and returns their texts and the result.
func run(m *cell.Memory, r api.Routine) string {
	text := ""
	g := gate.New(0)
	for a, ok := r.Act(); ok; a, ok = r.Act() {
		got, _ := act.Do(m, g, a)
		r.Take(got)
		text += act.Text(a) + "; "
	}
	res, ok := r.Result()
	r.Take(7)
	again, _ := r.Result()
	if !ok || again != res {
		return "no result"
	}
	return text + fmt.Sprint(int(res.F), res.V)
}

// line returns a line at cell 1.
func line(cap int) Line {
	return Line{site.Place{Kind: api.Ring, At: 1, Cap: cap, Width: 1}, 1 + 2 + cap}
}

func TestP2801RecordRead(t *testing.T) {
	record := func(task int, bits uint32) string { return fmt.Sprint(Record(task, bits)) }
	read := func(r uint32) string { return fmt.Sprint(Read(r)) }
	is(t, "Record", told(record(0, 0), record(3, 7), record(15, 65535), record(16, 0), record(-1, 0), record(0, 65536), record(math.MaxInt, 1), record(math.MinInt, 1), record(1, math.MaxUint32)),
		told("0 true", "196615 true", "1048575 true", "0 false", "0 false", "0 false", "0 false", "0 false", "0 false"))
	is(t, "Read", told(read(0), read(196615), read(1048575), read(math.MaxUint32), read(16<<16+1)), told("0 0", "3 7", "15 65535", "15 65535", "0 1"))
}

func TestP2802Put(t *testing.T) {
	m := cell.New(9)
	l := line(2)
	is(t, "first", run(m, Put(l, 70)), "load 2; load 1; store 3 70; store 2 1; raise; 0 [0 0 0 0]")
	is(t, "second", run(m, Put(l, 80)), "load 2; load 1; store 4 80; store 2 2; raise; 0 [0 0 0 0]")
	is(t, "full", run(m, Put(l, 90)), "load 2; load 1; load 5; store 5 1; 6 [0 0 0 0]")
	m.Store(5, math.MaxUint32)
	is(t, "full, no more counted", run(m, Put(l, 90)), "load 2; load 1; load 5; store 5 4294967295; 6 [0 0 0 0]")
	m.Store(1, math.MaxUint32)
	m.Store(2, math.MaxUint32)
	is(t, "wraps", run(m, Put(l, math.MaxUint32)), "load 2; load 1; store 4 4294967295; store 2 0; raise; 0 [0 0 0 0]")
	wide, none, odd, high, low := line(2), line(2), line(3), line(2), line(2)
	wide.Q.Width, none.Q.Kind, high.Over, low.Over = 2, api.Lock, api.MaxCells, -1
	for _, w := range []Line{{}, wide, none, odd, high, low, {Over: 3}} {
		is(t, "wrong", run(m, Put(w, 1)), "1 [0 0 0 0]")
	}
	high.Over = api.MaxCells - 1
	a, ok := Put(high, 1).Act()
	is(t, "greatest Over", told(a, ok), told(api.Act{Op: api.Load, At: 2}, true))
}

func TestP2803CountAsk(t *testing.T) {
	m := cell.Of([]uint32{5, math.MaxUint32})
	is(t, "Count", told(run(m, Count(0)), run(m, Count(1)), m.All()), told("load 0; store 0 6; raise; 0 [0 0 0 0]", "load 1; store 1 0; raise; 0 [0 0 0 0]", "[6 0]"))
	is(t, "Ask", told(run(m, Ask(1, 13)), m.All()), told("store 1 13; raise; 0 [0 0 0 0]", "[6 13]"))
	for _, at := range []int{-1, api.MaxCells, math.MinInt, math.MaxInt} {
		is(t, "wrong", told(run(m, Count(at)), run(m, Ask(at, 1))), told("1 [0 0 0 0]", "1 [0 0 0 0]"))
	}
	a, _ := Count(api.MaxCells - 1).Act()
	is(t, "greatest cell", a.At, api.MaxCells-1)
	var none *Hand
	for _, x := range []*Hand{none, {}} {
		x.Take(1)
		a, ok := x.Act()
		res, is2 := x.Result()
		is(t, "none", told(a, ok, res, is2), told(api.Act{}, false, api.Result{}, false))
	}
}

func TestP2804Laws(t *testing.T) {
	m := cell.New(20)
	l := line(4)
	m.Store(1, math.MaxUint32-1)
	m.Store(2, math.MaxUint32-1)
	var queue []uint32
	over := uint32(0)
	x := uint32(2)
	for n := range uint32(500) {
		x = x*1664525 + 1013904223
		if x>>20%5 < 3 {
			got := run(m, Put(l, n))
			if len(queue) == 4 {
				over++
				is(t, "full", got[len(got)-11:], "6 [0 0 0 0]")
			} else {
				queue = append(queue, n)
				is(t, "put", got[len(got)-11:], "0 [0 0 0 0]")
			}
		} else if len(queue) > 0 {
			want := fmt.Sprintf("; 0 [%d 0 0 0]", queue[0])
			got := run(m, ring.NewPop(l.Q))
			is(t, "taken", got[len(got)-len(want):], want)
			queue = queue[1:]
		}
		counted, _ := m.Load(l.Over)
		is(t, "counted", counted, over)
	}
}
