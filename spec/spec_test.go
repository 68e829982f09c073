package spec

import (
	"fmt"
	"math"
	"testing"

	"bellrope/api"
	"bellrope/duel"
	"bellrope/site"
)

// is compares what is told of two values.
func is(t *testing.T, what string, got, want any) {
	t.Helper()
	if fmt.Sprint(got) != fmt.Sprint(want) {
		t.Errorf("%s: %v, not %v", what, got, want)
	}
}

// told returns several results as one text.
func told(l ...any) string { return fmt.Sprintln(l...) }

// objects: one of each kind, and one that is not valid.
func objects() []api.Object {
	init := api.Value{5, 6, 7, 8}
	return []api.Object{{Kind: api.Ring, Cap: 2, Width: 2, Init: init}, {Kind: api.Four, Width: 2, Init: init}, {Kind: api.Lock, Width: 3, Retry: 2, Init: init}, {Kind: api.Flags, Init: init}, {Kind: api.Lock, Width: 9, Init: init}}
}

// play executes calls one after another and tells the results.
func play(s []Item, calls ...api.Call) ([]Item, string) {
	text := ""
	for _, c := range calls {
		next, r := Do(s, c)
		s = next
		text += fmt.Sprint(int(r.F), r.V, "; ")
	}
	return s, text
}

// call returns a call.
func call(kind, obj int, words ...uint32) api.Call {
	c := api.Call{Kind: kind, Obj: obj}
	copy(c.V[:], words)
	return c
}

func TestP1901StartPlain(t *testing.T) {
	s := Start(objects())
	for i, want := range []string{"[] [0 0 0 0]", "[] [5 6 0 0]", "[] [5 6 7 0]", "[] [5 0 0 0]", "[] [0 0 0 0]"} {
		is(t, "Start", told(s[i].O, fmt.Sprint(s[i].Row, s[i].V)), told(objects()[i], want))
	}
	is(t, "Start none", len(Start(nil)), 0)
	for kind := -1; kind < 22; kind++ {
		want := kind
		if kind == api.SendWait {
			want = api.Send
		} else if kind == api.RecvWait {
			want = api.Recv
		}
		is(t, "Plain", Plain(kind), want)
	}
}

func TestP1902Do(t *testing.T) {
	_, text := play(Start(objects()), call(api.Recv, 0), call(api.Send, 0, 1, 2, 3, 4), call(api.SendWait, 0, 5, 6), call(api.Send, 0, 7), call(api.SendWait, 0, 7), call(api.Recv, 0), call(api.RecvWait, 0), call(api.RecvWait, 0))
	is(t, "ring", text, "7 [0 0 0 0]; 0 [0 0 0 0]; 0 [0 0 0 0]; 6 [0 0 0 0]; 6 [0 0 0 0]; 0 [1 2 0 0]; 0 [5 6 0 0]; 7 [0 0 0 0]; ")
	_, text = play(Start(objects()), call(api.Read, 1), call(api.Write, 1, 9, 8, 7, 6), call(api.Read, 1), call(api.Try, 2), call(api.Write, 2, 4, 3, 2, 1), call(api.Again, 2), call(api.Try, 2))
	is(t, "registers", text, "0 [5 6 0 0]; 0 [0 0 0 0]; 0 [9 8 0 0]; 0 [5 6 7 0]; 0 [0 0 0 0]; 0 [4 3 2 0]; 0 [4 3 2 0]; ")
	_, text = play(Start(objects()), call(api.Set, 3, 2), call(api.Get, 3, 9), call(api.Clear, 3, 5), call(api.WaitAny, 3, 6), call(api.WaitAll, 3, 6), call(api.WaitAny, 3, 5), call(api.WaitAll, 3, 0), call(api.WaitAny, 3, 0))
	is(t, "flags", text, "0 [5 0 0 0]; 0 [7 0 0 0]; 0 [7 0 0 0]; 0 [2 0 0 0]; 7 [0 0 0 0]; 7 [0 0 0 0]; 0 [2 0 0 0]; 7 [0 0 0 0]; ")
	places, _ := site.Of(objects())
	for kind := -1; kind < 22; kind++ {
		for obj := -1; obj < 6; obj++ {
			want, refused := duel.Routine(places, call(Plain(kind), obj)).Result()
			s, got := Do(Start(objects()), call(kind, obj))
			if refused {
				is(t, fmt.Sprint("fault of ", kind, obj), told(got, Same(s, Start(objects()))), told(want, true))
			} else {
				is(t, "no fault", got.F == api.OK || got.F == api.Empty, true)
			}
		}
	}
	for _, obj := range []int{math.MinInt, math.MaxInt} {
		_, got := Do(nil, call(api.Send, obj))
		is(t, "Missing", got.F, api.Missing)
	}
}

func TestP1903Allows(t *testing.T) {
	s := Start(objects())
	full, _ := play(s, call(api.Send, 0, 1), call(api.Send, 0, 2))
	for i, c := range []struct {
		s    []Item
		c    api.Call
		r    api.Result
		want bool
		same bool
	}{
		{s, call(api.Send, 0, 3), api.Result{}, true, false}, {s, call(api.Send, 0, 3), api.Result{F: api.Full}, false, true}, {full, call(api.Send, 0, 3), api.Result{F: api.Full}, true, true},
		{full, call(api.Recv, 0), api.Result{V: api.Value{1}}, true, false}, {full, call(api.Recv, 0), api.Result{V: api.Value{2}}, false, true}, {full, call(api.Recv, 0), api.Result{F: api.Empty}, false, true},
		{s, call(api.Try, 2), api.Result{F: api.Busy}, true, true}, {s, call(api.Again, 2), api.Result{F: api.Busy}, true, true}, {s, call(api.Again, 2), api.Result{F: api.Busy, V: api.Value{1}}, false, true},
		{s, call(api.Read, 1), api.Result{F: api.Busy}, false, true}, {s, call(api.Try, 1), api.Result{F: api.Busy}, false, true}, {s, call(api.Try, 9), api.Result{F: api.Busy}, false, true}, {s, call(api.Write, 2), api.Result{F: api.Busy}, false, true},
		{full, call(api.SendWait, 0), api.Result{F: api.Timeout}, true, true}, {full, call(api.SendWait, 0), api.Result{F: api.Timeout, V: api.Value{0, 1}}, false, true}, {full, call(api.Send, 0), api.Result{F: api.Timeout}, false, true},
		{s, call(api.SendWait, 0), api.Result{F: api.Timeout}, false, true}, {s, call(api.RecvWait, 0), api.Result{F: api.Timeout}, true, true}, {s, call(api.Recv, 0), api.Result{F: api.Timeout}, false, true},
		{s, call(api.WaitAny, 3, 2), api.Result{F: api.Timeout}, true, true}, {s, call(api.WaitAll, 3, 2), api.Result{F: api.Timeout}, true, true}, {s, call(api.WaitAll, 3, 1), api.Result{F: api.Timeout}, false, true},
		{s, call(api.WaitAny, 1), api.Result{F: api.Timeout}, false, true}, {s, call(api.WaitAny, 1), api.Result{F: api.Kind}, true, true}, {s, call(99, 1), api.Result{F: api.BadArg}, true, true}, {full, call(api.SendWait, 0), api.Result{F: api.Busy}, false, true},
	} {
		next, ok := Allows(c.s, c.c, c.r)
		is(t, fmt.Sprint("Allows ", i), told(ok, Same(next, c.s)), told(c.want, c.same))
	}
}

func TestP1904SameKey(t *testing.T) {
	s := Start(objects())
	l := [][]Item{s}
	for _, c := range []api.Call{call(api.Send, 0, 0), call(api.Send, 0, 1), call(api.Send, 0, 256), call(api.Send, 0, 1<<24), call(api.Write, 1, 5), call(api.Write, 2, 5), call(api.Set, 3, 8), call(api.Clear, 3, 5)} {
		next, _ := Do(s, c)
		l = append(l, next)
	}
	two, _ := play(s, call(api.Send, 0, 0), call(api.Send, 0, 0))
	l = append(l, two)
	for i, a := range l {
		for j, b := range l {
			is(t, "states", told(Same(a, b), Key(a) == Key(b)), told(i == j, i == j))
		}
	}
	again, _ := play(s, call(api.Send, 0, 1), call(api.Recv, 0))
	is(t, "equal rows", told(Same(s, again), Key(s) == Key(again), Same(s, s[:4]), Same(s[:4], s), Same(nil, nil)), told(true, true, false, false, true))
	other := Start(objects())
	other[0].O.From = 1
	is(t, "other object", Same(s, other), false)
}

func TestP1905Laws(t *testing.T) {
	s := Start(objects())
	x := uint32(4)
	for range 500 {
		x = x*1664525 + 1013904223
		before := fmt.Sprint(s)
		spare := append(make([]Item, 0, len(s)+4), s...)
		next, r := Do(spare, call(int(x>>8%18), int(x>>16%5), x>>3))
		allowed, _ := Allows(spare, call(int(x>>8%18), int(x>>16%5), x>>3), r)
		is(t, "not modified", told(fmt.Sprint(s), spare[:6][5]), told(before, Item{}))
		is(t, "same", told(Same(next, allowed), len(next[0].Row) <= 2), told(true, true))
		next = append(next, Item{})[:len(next)]
		s = next
	}
}
