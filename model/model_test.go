package model

import (
	"fmt"
	"math"
	"slices"
	"testing"

	"bellrope/api"
	"bellrope/sched"
	"bellrope/spec"
)

// is compares what is told of two values.
func is(t *testing.T, what string, got, want any) {
	t.Helper()
	if fmt.Sprint(got) != fmt.Sprint(want) {
		t.Errorf("%s: %v, not %v", what, got, want)
	}
}

// told returns several results as one text.
func told(l ...any) string { return fmt.Sprintln(l...) }

// some: a configuration with something of everything.
func some() api.Config {
	return api.Config{Tasks: []api.Task{{Prio: 2}, {Prio: 1}, {Prio: 1}}, Levels: []api.Level{{Room: 1}, {Room: 2}}, Objects: []api.Object{{Kind: api.Ring, Cap: 1, Width: 1}, {Kind: api.Flags, Init: api.Value{1}}, {Kind: api.Lock, Width: 1}}}
}

// do tells what Do answers.
func do(m *Model, x Move) string {
	out, f := m.Do(x)
	return fmt.Sprint(int(out.R.F), out.V, out.L, int(f))
}

// asked makes a task ask, and tells what comes of it.
func asked(m *Model, t int, r sched.Request) string {
	return do(m, Move{Kind: AskIn, Who: t, Ask: r}) + "; " + do(m, Move{Kind: Serve, Who: t}) + "; " + do(m, Move{Kind: Choose})
}

func TestP3701New(t *testing.T) {
	m := New(some())
	is(t, "New", told(spec.Same(m.Items(), spec.Start(some().Objects)), m.Sched().Current(), m.Line(1), m.Over(1), m.Ticks(), m.Asks(0), m.Settled(false)), told(true, 0, []int{}, 0, 0, false, true))
	is(t, "not valid", New(api.Config{}) == nil, true)
	var none *Model
	is(t, "nil", told(do(none, Move{Kind: Choose}), none.Enabled(0), none.Settled(true), none.Settled(false), none.Items(), none.Sched() == nil, none.Line(1), none.Over(1), none.Ticks(), none.Asks(0)), told("0 0 [] 15", false, false, false, []int{}, true, []int{}, 0, 0, false))
}

func TestP3702Do(t *testing.T) {
	m := New(some())
	send := api.Call{Kind: api.Send, V: api.Value{5}}
	is(t, "Point", told(do(m, Move{Kind: Point, Call: send}), do(m, Move{Kind: Point, Call: send}), do(m, Move{Kind: Point, Call: send, R: api.Result{F: api.Full}}), m.Items()[0].Row), told("0 0 [] 0", "0 0 [] 2", "0 0 [] 0", "[[5 0 0 0]]"))
	is(t, "Point, busy", told(do(m, Move{Kind: Point, Call: api.Call{Kind: api.Try, Obj: 2}, R: api.Result{F: api.Busy}}), do(m, Move{Kind: Point, Call: api.Call{Kind: api.Get, Obj: 1}, R: api.Result{V: api.Value{2}}})), told("0 0 [] 0", "0 0 [] 2"))
	is(t, "PostIn", told(do(m, Move{Kind: PostIn, Who: 1, V: 7}), do(m, Move{Kind: PostIn, Who: 1, V: 8}), m.Line(1), m.Over(1), do(m, Move{Kind: PostIn, Who: 2, V: 9})), told("0 0 [] 0", "6 0 [] 0", []int{7}, 1, "0 0 [] 0"))
	for _, who := range []int{0, 3, -1, math.MinInt, math.MaxInt} {
		is(t, "no level", told(do(m, Move{Kind: PostIn, Who: who}), do(m, Move{Kind: Apply, Who: who})), told("0 0 [] 4", "0 0 [] 4"))
	}
	m.Do(Move{Kind: PostIn, Who: 2, V: 1<<16 + 6})
	is(t, "Apply", told(do(m, Move{Kind: Apply, Who: 1}), do(m, Move{Kind: Apply, Who: 1}), do(m, Move{Kind: Apply, Who: 2}), do(m, Move{Kind: Apply, Who: 2}), m.Sched().Bits(0), m.Sched().Bits(1)), told("0 7 [] 0", "0 0 [] 15", "0 9 [] 0", "0 65542 [] 0", 15, 6))
	is(t, "AskIn", told(do(m, Move{Kind: AskIn, Who: 3}), do(m, Move{Kind: AskIn, Who: -1}), do(m, Move{Kind: AskIn, Who: 0, Ask: sched.Request{Kind: api.Post, Obj: 9}}), do(m, Move{Kind: AskIn, Who: 0}), do(m, Move{Kind: AskIn, Who: 1})), told("0 0 [] 4", "0 0 [] 4", "0 0 [] 0", "0 0 [] 15", "0 0 [] 0"))
	is(t, "Serve", told(do(m, Move{Kind: Serve, Who: 1}), do(m, Move{Kind: Serve, Who: 0}), do(m, Move{Kind: Serve, Who: 0}), do(m, Move{Kind: Serve, Who: -1}), do(m, Move{Kind: Serve, Who: math.MaxInt})), told("0 0 [] 15", "0 4 [] 0", "0 0 [] 15", "0 0 [] 15", "0 0 [] 15"))
	is(t, "Choose", told(asked(m, 0, sched.Request{Kind: api.Sleep, Delay: 2}), do(m, Move{Kind: Choose})), told("0 0 [] 0; 0 0 [] 0; 0 0 [1] 0", "0 0 [1] 0"))
	is(t, "ticks", told(do(m, Move{Kind: TickOut}), do(m, Move{Kind: TickIn}), do(m, Move{Kind: TickIn}), do(m, Move{Kind: TickOut}), do(m, Move{Kind: TickOut}), do(m, Move{Kind: TickOut})), told("0 0 [] 15", "0 0 [] 0", "0 0 [] 0", "0 0 [] 0", "0 0 [0] 0", "0 0 [] 15"))
	m.ticks, m.lines[0].over = math.MaxUint32, math.MaxUint32
	m.Do(Move{Kind: PostIn, Who: 1})
	m.Do(Move{Kind: PostIn, Who: 1})
	is(t, "limits", told(do(m, Move{Kind: TickIn}), m.Ticks(), m.Over(1)), told("0 0 [] 15", uint32(math.MaxUint32), uint32(math.MaxUint32)))
	for _, kind := range []int{0, 10, -1, math.MinInt} {
		is(t, "other kinds", do(m, Move{Kind: kind}), "0 0 [] 12")
	}
	m = New(some())
	is(t, "Wake", told(do(m, Move{Kind: Wake, Who: 0}), asked(m, 0, sched.Request{Kind: api.WaitAny, Obj: 1, Mask: 3, Delay: 5}), do(m, Move{Kind: Wake, Who: 0}), do(m, Move{Kind: Wake, Who: 0}), m.Sched().State(0)), told("0 0 [] 15", "0 0 [] 0; 0 0 [] 0; 0 0 [1] 0", "0 0 [] 0", "0 0 [] 15", 1))
	for range 3 {
		now := m.Sched().Current()
		is(t, "nobody is left", asked(m, now, sched.Request{Kind: api.Exit})[:20], "0 0 [] 0; 0 0 [] 0; ")
		m.Do(Move{Kind: Choose})
	}
	is(t, "nobody", do(m, Move{Kind: Choose}), "0 0 [-1] 0")
}

func TestP3703Enabled(t *testing.T) {
	for _, c := range []struct {
		r     sched.Request
		first bool
		x     Move
		then  bool
	}{
		{sched.Request{Kind: api.RecvWait, Obj: 0, Delay: 5}, false, Move{Kind: Point, Call: api.Call{Kind: api.Send}}, true}, {sched.Request{Kind: api.SendWait, Obj: 0, Delay: 5}, true, Move{Kind: Point, Call: api.Call{Kind: api.Send}}, false},
		{sched.Request{Kind: api.WaitAll, Obj: 1, Mask: 3, Delay: 5}, false, Move{Kind: Point, Call: api.Call{Kind: api.Set, Obj: 1, V: api.Value{2}}, R: api.Result{V: api.Value{1}}}, true},
		{sched.Request{Kind: api.WaitAny, Obj: 1, Mask: 2, Delay: 5}, false, Move{Kind: Point, Call: api.Call{Kind: api.Set, Obj: 1, V: api.Value{2}}, R: api.Result{V: api.Value{1}}}, true},
		{sched.Request{Kind: api.Await, Delay: 5}, false, Move{Kind: PostIn, Who: 1, V: 1}, false}, {sched.Request{Kind: api.Sleep, Delay: 5}, false, Move{Kind: TickIn}, false}, {sched.Request{Kind: api.Yield}, false, Move{Kind: TickIn}, false},
	} {
		m := New(some())
		asked(m, 0, c.r)
		before := m.Enabled(0)
		m.Do(c.x)
		is(t, fmt.Sprint("Enabled ", c.r), told(before, m.Enabled(0), m.Enabled(1), m.Enabled(-1), m.Enabled(99)), told(c.first, c.then, false, false, false))
		if c.r.Kind == api.Await {
			m.Do(Move{Kind: Apply, Who: 1})
			is(t, "due", m.Enabled(0), true)
		}
	}
}

func TestP3704Settled(t *testing.T) {
	m := New(some())
	settled := func() string { return fmt.Sprint(m.Settled(false), m.Settled(true)) }
	m.Do(Move{Kind: PostIn, Who: 2, V: 1})
	is(t, "a record", settled(), "false false")
	m.Do(Move{Kind: Apply, Who: 2})
	is(t, "applied", settled(), "true true")
	m.Do(Move{Kind: TickIn})
	is(t, "a tick", settled(), "false false")
	m.Do(Move{Kind: TickOut})
	m.Do(Move{Kind: AskIn, Who: 0, Ask: sched.Request{Kind: api.RecvWait, Delay: 9}})
	is(t, "a request of the current task", settled(), "false true")
	m.Do(Move{Kind: Serve, Who: 0})
	is(t, "not the task that would be chosen", settled(), "false false")
	m.Do(Move{Kind: Choose})
	is(t, "chosen", settled(), "true true")
	m.Do(Move{Kind: Point, Call: api.Call{Kind: api.Send}})
	is(t, "a task is enabled", settled(), "false true")
	m.Do(Move{Kind: AskIn, Who: 2})
	is(t, "a request of another task", settled(), "false false")
}

func TestP3705Reports(t *testing.T) {
	m := New(some())
	m.Do(Move{Kind: Point, Call: api.Call{Kind: api.Send, V: api.Value{3}}})
	m.Do(Move{Kind: PostIn, Who: 2, V: 4})
	m.Do(Move{Kind: TickIn})
	m.Do(Move{Kind: AskIn, Who: 1})
	m.Items()[0].Row[0][0] = 9
	m.Items()[1].V[0] = 9
	m.Line(2)[0] = 9
	m.Sched().Serve(sched.Request{Kind: api.Exit})
	is(t, "copies", told(m.Items()[0].Row, m.Items()[1].V[0], m.Line(2), m.Sched().State(0)), told("[[3 0 0 0]]", 1, []int{4}, 1))
	is(t, "reports", told(m.Ticks(), m.Over(2), m.Asks(0), m.Asks(1), m.Asks(-1), m.Asks(99)), told(1, 0, false, true, false, false))
	for _, level := range []int{0, 3, -1, math.MinInt} {
		is(t, "no level", told(m.Line(level), m.Over(level)), told([]int{}, 0))
	}
}

func TestP3706Laws(t *testing.T) {
	m := New(some())
	var queue []uint32
	over := uint32(0)
	x := uint32(3)
	for n := range uint32(500) {
		x = x*1664525 + 1013904223
		if x>>20%2 == 0 {
			out, _ := m.Do(Move{Kind: PostIn, Who: 2, V: n})
			if out.R.F == api.OK {
				queue = append(queue, n)
			} else {
				over++
			}
		} else if out, f := m.Do(Move{Kind: Apply, Who: 2}); f == api.OK {
			is(t, "in order", out.V, queue[0])
			queue = slices.Delete(queue, 0, 1)
		}
		is(t, "queue", told(m.Line(2), len(queue) <= 2, m.Over(2)), told(queue, true, over))
	}
}
