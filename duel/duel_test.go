package duel

import (
	"fmt"
	"math"
	"testing"

	"bellrope/act"
	"bellrope/api"
	"bellrope/cell"
	"bellrope/gate"
	"bellrope/site"
)

// is compares what is told of two values.
func is(t *testing.T, what string, got, want any) {
	t.Helper()
	if fmt.Sprint(got) != fmt.Sprint(want) {
		t.Errorf("%s: %v, not %v", what, got, want)
	}
}

// told returns several results as one text.
func told(l ...any) string { return fmt.Sprintln(l...) }

// objects: one of each kind, and one that is not valid.
func objects() []api.Object {
	return []api.Object{{Kind: api.Ring, Cap: 1, Width: 1}, {Kind: api.Four, Width: 1, Init: api.Value{8}}, {Kind: api.Lock, Width: 1, Retry: 2, Init: api.Value{9}}, {Kind: api.Flags, Init: api.Value{5}}, {Kind: api.Ring, Cap: 3, Width: 1}}
}

// endless: a routine that never ends.
type endless struct{ act api.Act }

func (e endless) Act() (api.Act, bool)       { return e.act, true }
func (e endless) Take(uint32)                {}
func (e endless) Result() (api.Result, bool) { return api.Result{F: api.Full}, false }

// wild: a routine that panics at its third act.
type wild struct{ acts int }

func (w *wild) Act() (api.Act, bool) {
	w.acts++
	if w.acts > 2 {
		panic("wild")
	}
	return api.Act{}, true
}
func (w *wild) Take(uint32)                {}
func (w *wild) Result() (api.Result, bool) { return api.Result{}, true }

// empty: a routine with neither an act nor a result.
type empty struct{}

func (empty) Act() (api.Act, bool)       { return api.Act{}, false }
func (empty) Take(uint32)                {}
func (empty) Result() (api.Result, bool) { return api.Result{F: api.Full}, false }

func TestP1601Routine(t *testing.T) {
	places, _ := site.Of(objects())
	for _, c := range []struct {
		call api.Call
		want string // the first act, or the fault
	}{
		{api.Call{Kind: api.Send, Obj: 0}, "load 1"}, {api.Call{Kind: api.Recv, Obj: 0}, "load 0"}, {api.Call{Kind: api.Write, Obj: 1}, "load 4"}, {api.Call{Kind: api.Read, Obj: 1}, "load 3"},
		{api.Call{Kind: api.Write, Obj: 2}, "load 11"}, {api.Call{Kind: api.Try, Obj: 2}, "load 11"}, {api.Call{Kind: api.Again, Obj: 2}, "load 11"},
		{api.Call{Kind: api.Set, Obj: 3, V: api.Value{6, 1}}, "or 13 6"}, {api.Call{Kind: api.Clear, Obj: 3, V: api.Value{6}}, "and 13 4294967289"}, {api.Call{Kind: api.Get, Obj: 3}, "load 13"},
		{api.Call{Kind: api.WaitAny, Obj: 3}, "load 13"}, {api.Call{Kind: api.WaitAll, Obj: 3}, "load 13"},
		{api.Call{Kind: 0, Obj: 99}, "1"}, {api.Call{Kind: api.Post, Obj: 0}, "1"}, {api.Call{Kind: api.SendWait, Obj: 0}, "1"}, {api.Call{Kind: api.RecvWait, Obj: 0}, "1"}, {api.Call{Kind: math.MinInt}, "1"}, {api.Call{Kind: 20}, "1"},
		{api.Call{Kind: api.Send, Obj: 5}, "4"}, {api.Call{Kind: api.Get, Obj: -1}, "4"}, {api.Call{Kind: api.Get, Obj: math.MaxInt}, "4"},
		{api.Call{Kind: api.Send, Obj: 1}, "12"}, {api.Call{Kind: api.Send, Obj: 4}, "12"}, {api.Call{Kind: api.Read, Obj: 2}, "12"}, {api.Call{Kind: api.Try, Obj: 1}, "12"}, {api.Call{Kind: api.Write, Obj: 0}, "12"},
		{api.Call{Kind: api.Write, Obj: 3}, "12"}, {api.Call{Kind: api.Set, Obj: 2}, "12"}, {api.Call{Kind: api.WaitAll, Obj: 0}, "12"},
	} {
		r := Routine(places, c.call)
		a, more := r.Act()
		res, ended := r.Result()
		got := act.Text(a)
		if !more {
			r.Take(3)
			got = fmt.Sprint(int(res.F))
		}
		is(t, fmt.Sprint("Routine ", c.call), told(got, ended, res.V), told(c.want, !more, api.Value{}))
	}
	r := Routine([]site.Place{{Kind: api.Ring, Cap: 3, Width: 1}, {Kind: api.Lock, Width: 1, Retry: 9}}, api.Call{Kind: api.Send})
	res, ok := r.Result()
	is(t, "otherwise invalid", told(res, ok), told(api.Result{F: api.BadArg}, true))
	m := cell.New(3)
	m.Store(0, 1)
	for retry := range 3 {
		p := []site.Place{{Kind: api.Lock, Width: 1, Retry: retry}}
		_, once, _ := Alone(m, nil, Routine(p, api.Call{Kind: api.Try}), 99)
		_, often, _ := Alone(m, nil, Routine(p, api.Call{Kind: api.Again}), 99)
		is(t, "tries", told(once, often), told(1, retry+1))
	}
	m.Store(0, 0)
	res, _, _ = Alone(m, nil, Routine([]site.Place{{Kind: api.Flags}}, api.Call{Kind: api.WaitAll, V: api.Value{1}}), 9)
	any, _, _ := Alone(m, nil, Routine([]site.Place{{Kind: api.Flags}}, api.Call{Kind: api.WaitAny, V: api.Value{0}}), 9)
	is(t, "waits", told(res, any), told(api.Result{F: api.Empty}, api.Result{F: api.Empty}))
}

func TestP1602Alone(t *testing.T) {
	places, _ := site.Of(objects())
	send := func() api.Routine { return Routine(places, api.Call{Kind: api.Send, V: api.Value{7}}) }
	for _, c := range []struct {
		r    api.Routine
		most int
		want string
	}{
		{send(), 4, "{0 [0 0 0 0]} 4 true"}, {send(), math.MaxInt, "{0 [0 0 0 0]} 4 true"}, {send(), 3, "{0 [0 0 0 0]} 3 false"}, {send(), 0, "{0 [0 0 0 0]} 0 false"}, {send(), math.MinInt, "{0 [0 0 0 0]} 0 false"},
		{Routine(places, api.Call{}), -5, "{1 [0 0 0 0]} 0 true"}, {nil, 9, "{0 [0 0 0 0]} 0 false"}, {&wild{}, 9, "{0 [0 0 0 0]} 2 false"}, {&wild{}, 1, "{0 [0 0 0 0]} 1 false"}, {empty{}, 9, "{0 [0 0 0 0]} 0 false"},
		{endless{}, 1000, "{0 [0 0 0 0]} 1000 false"}, {endless{api.Act{Op: 99}}, 1000, "{0 [0 0 0 0]} 0 false"}, {endless{api.Act{Op: api.Load, At: 50}}, 1000, "{0 [0 0 0 0]} 0 false"},
		{endless{api.Act{Op: api.Raise}}, 5, "{0 [0 0 0 0]} 0 false"},
	} {
		res, n, ok := Alone(site.Start(objects()), nil, c.r, c.most)
		is(t, "Alone", fmt.Sprint(res, n, ok), c.want)
	}
	g := gate.New(0)
	_, n, _ := Alone(nil, g, endless{api.Act{Op: api.Raise}}, 5)
	is(t, "raises", told(n, g.Pending()), told(5, 1))
	res, n, ok := Alone(nil, nil, send(), 9)
	is(t, "without a memory", told(res, n, ok), told(api.Result{}, 0, false))
}

func TestP1603Run(t *testing.T) {
	send, recv := api.Call{Kind: api.Send, V: api.Value{5}}, api.Call{Kind: api.Recv}
	l := Run(objects(), [][]api.Call{{send}, {recv}}, []int{0, 1, 0, 1})
	is(t, "Ops", l.Ops, []api.Op{{Who: 0, Call: send}, {Who: 1, Call: recv, Result: api.Result{F: api.Empty}, Done: true, Begin: 1, End: 3}})
	is(t, "Seen", l.Seen, "[{0 0 {1 1 0} 0} {1 1 {1 0 0} 0} {2 0 {1 0 0} 0} {3 1 {1 1 0} 0}]")
	is(t, "Cells", l.Cells, "[0 0 0 0 0 0 0 8 0 0 0 0 9 5]")
	l = Run(objects(), [][]api.Call{{send, {Kind: 77}, recv}, {{Kind: api.Set, Obj: 3, V: api.Value{2}}}}, []int{-2, 2, 4, 0, math.MinInt, 1, 3, 0, 0, 0, 0, 0, 0, 0, 1, 1})
	is(t, "Ops", l.Ops, []api.Op{{Call: send, Done: true, End: 3}, {Index: 1, Call: api.Call{Kind: 77}, Result: api.Result{F: api.BadArg}, Done: true, Begin: 4, End: 4},
		{Who: 1, Call: api.Call{Kind: api.Set, Obj: 3, V: api.Value{2}}, Result: api.Result{V: api.Value{5}}, Done: true, Begin: 5, End: 5},
		{Index: 2, Call: recv, Result: api.Result{V: api.Value{5}}, Done: true, Begin: 6, End: 9}})
	is(t, "steps", told(len(l.Seen), l.Seen[4], l.Cells), told(10, api.Seen{Step: 4}, []uint32{1, 1, 5, 0, 0, 0, 0, 8, 0, 0, 0, 0, 9, 7}))
	l = Run(objects(), nil, []int{1, 2})
	is(t, "no threads", told(l.Ops, l.Seen, len(l.Cells)), told([]int{}, []int{}, 14))
	l = Run(nil, [][]api.Call{nil, {}}, []int{1, 2})
	is(t, "no calls", told(l.Ops, l.Seen, l.Cells), told([]int{}, []int{}, []int{}))
	many := make([]api.Object, 256)
	for i := range many {
		many[i] = api.Object{Kind: api.Ring, Cap: 64, Width: 4}
	}
	l = Run(many, [][]api.Call{{{Kind: api.Send, Obj: 255}}}, make([]int, 20))
	is(t, "cells that there are not read 0", told(len(l.Seen), l.Ops[0].Done, l.Ops[0].Result, len(l.Cells)), told(7, true, api.Result{}, api.MaxCells))
}

func TestP1604Laws(t *testing.T) {
	calls := []api.Call{{Kind: api.Send, V: api.Value{4}}, {Kind: api.Send}, {Kind: api.Recv}, {Kind: api.Recv}, {Kind: api.Write, Obj: 1, V: api.Value{3}}, {Kind: api.Read, Obj: 1}, {Kind: api.Write, Obj: 2, V: api.Value{6}},
		{Kind: api.Try, Obj: 2}, {Kind: api.Again, Obj: 2}, {Kind: api.Clear, Obj: 3, V: api.Value{1}}, {Kind: api.Get, Obj: 3}, {Kind: api.WaitAll, Obj: 3, V: api.Value{1}}, {Kind: api.Get, Obj: 7}, {Kind: api.Get, Obj: 4}}
	l := Run(objects(), [][]api.Call{calls}, make([]int, 100))
	m := site.Start(objects())
	places, _ := site.Of(objects())
	is(t, "calls", len(l.Ops), len(calls))
	for i, o := range l.Ops {
		res, n, _ := Alone(m, nil, Routine(places, calls[i]), 99)
		is(t, fmt.Sprint("call ", i), told(o.Result, o.End-o.Begin+1, o.Done), told(res, max(n, 1), true))
	}
	is(t, "cells", l.Cells, m.All())
}
