package drain

import (
	"fmt"
	"math"
	"testing"

	"bellrope/act"
	"bellrope/api"
	"bellrope/cell"
	"bellrope/plan"
	"bellrope/sched"
	"bellrope/task"
)

// is compares what is told of two values.
func is(t *testing.T, what string, got, want any) {
	t.Helper()
	if fmt.Sprint(got) != fmt.Sprint(want) {
		t.Errorf("%s: %v, not %v", what, got, want)
	}
}

// told returns several results as one text.
func told(l ...any) string { return fmt.Sprintln(l...) }

// some: the cells are: ring 0 to 2, flags 3, line 4 to 7, over 8, line 9 to 11, over 12, tick 13, asks 14 to 16.
func some() api.Config {
	return api.Config{Tasks: []api.Task{{Prio: 3}, {Prio: 2}, {Prio: 1}}, Levels: []api.Level{{Room: 2}, {Room: 1}}, Objects: []api.Object{{Kind: api.Ring, Cap: 1, Width: 1}, {Kind: api.Flags}}}
}

// none asks for nothing.
func none(int) (sched.Request, bool) { return sched.Request{}, false }

// asking returns what asks for r.
func asking(r sched.Request) func(int) (sched.Request, bool) {
	return func(int) (sched.Request, bool) { return r, true }
}

// turn performs a turn and tells its acts and events.
func turn(d *Drain, m *cell.Memory, ask func(int) (sched.Request, bool)) string {
	text := fmt.Sprint(d.Begin(ask), ": ")
	for a, ok := d.Act(); ok; a, ok = d.Act() {
		got, _ := act.Do(m, nil, a)
		text += act.Text(a)
		for _, e := range d.Take(got) {
			text += fmt.Sprint(" ", e)
		}
		text += "; "
	}
	return text
}

// wait makes the current task wait.
func wait(d *Drain, r sched.Request) {
	d.Sched().Serve(r)
	d.Sched().Dispatch()
}

func TestP3401NewBeginOn(t *testing.T) {
	d := New(some())
	is(t, "Begin", told(d.On(), d.Begin(nil), d.On(), d.Begin(none), d.On(), d.Begin(none)), told(false, false, false, true, true, false))
	is(t, "New", told(d.Sched().Current(), New(api.Config{}) == nil), told(0, true))
	var nobody *Drain
	a, ok := nobody.Act()
	is(t, "nil", told(nobody.Begin(none), nobody.On(), a, ok, nobody.Take(1), nobody.Sched() == nil, nobody.Seen(), nobody.Heads()), told(false, false, api.Act{}, false, []int{}, true, 0, []int{}))
}

func TestP3402ActTake(t *testing.T) {
	d := New(api.Config{Tasks: make([]api.Task, 1)})
	m := plan.Memory(api.Config{Tasks: make([]api.Task, 1)})
	is(t, "example", turn(d, m, none), "true: load 1; load 0; none; ")
	is(t, "between turns", told(d.Take(5), d.On()), told([]int{}, false))
	d, m = New(some()), plan.Memory(some())
	lines := "load 5; load 10; "
	is(t, "nothing to do", turn(d, m, none), "true: load 14; load 13; "+lines+"none; ")
	m.Store(14, 1)
	is(t, "no request", turn(d, m, none), "true: load 14; store 14 0; load 13; "+lines+"none; ")
	m.Store(14, 1)
	is(t, "an ask that panics", turn(d, m, func(int) (sched.Request, bool) { panic("ask") }), "true: load 14; store 14 0; load 13; "+lines+"none; ")
	m.Store(14, 1)
	is(t, "request", turn(d, m, asking(sched.Request{Kind: api.Sleep, Delay: 2})), "true: load 14; store 14 0 {1 0 13 0}; load 13; "+lines+"none {6 1 0 0}; ")
	m.Store(15, 7)
	is(t, "refused", turn(d, m, asking(sched.Request{Kind: api.Post, Obj: 9})), "true: load 15; store 15 0 {1 1 10 4}; load 13; "+lines+"none; ")
	m.Store(13, 3)
	is(t, "ticks", turn(d, m, none), "true: load 15; load 13; none {2 0 0 1}; none {2 0 0 2} {3 0 0 0}; none {2 0 0 3}; "+lines+"none {6 0 0 0}; ")
	m.Store(5, 2)
	m.Store(6, 65536+5)
	m.Store(7, 65536*2+6)
	m.Store(10, 1)
	m.Store(11, 65536*9+6)
	is(t, "records", turn(d, m, none), "true: load 14; load 13; load 5; load 6; store 4 1 {4 1 1 65541}; load 7; store 4 2 {4 1 2 131078}; load 10; load 11; store 9 1 {4 2 9 589830}; none; ")
	is(t, "noted", told(d.Sched().Bits(0), d.Sched().Bits(1), d.Sched().Bits(2)), told(0, 5, 6))
}

func TestWaits(t *testing.T) {
	d, m := New(some()), plan.Memory(some())
	wait(d, sched.Request{Kind: api.RecvWait, Obj: 0, Delay: 9})
	wait(d, sched.Request{Kind: api.WaitAll, Obj: 1, Mask: 3, Delay: 9})
	wait(d, sched.Request{Kind: api.Await, Delay: 9})
	lines := "load 5; load 10; "
	is(t, "no task is current", turn(d, m, none), "true: load 13; "+lines+"load 0; load 1; load 3; none; none; ")
	m.Store(3, 1)
	is(t, "still none", turn(d, m, none), "true: load 13; "+lines+"load 0; load 1; load 3; none; none; ")
	m.Store(3, 7)
	m.Store(1, 1)
	d.Sched().Note(2, 4)
	is(t, "all", turn(d, m, none), "true: load 13; "+lines+"load 0; load 1 {5 0 0 0}; load 3 {5 1 0 0}; none {5 2 0 0}; none {6 0 0 0}; ")
	wait(d, sched.Request{Kind: api.SendWait, Obj: 0, Delay: 9})
	wait(d, sched.Request{Kind: api.WaitAny, Obj: 1, Mask: 8, Delay: 9})
	is(t, "full", turn(d, m, none), "true: load 16; load 13; "+lines+"load 1; load 0; load 3; none; ")
	m.Store(0, 1)
	m.Store(3, 12)
	is(t, "not full", turn(d, m, none), "true: load 16; load 13; "+lines+"load 1; load 0 {5 0 0 0}; load 3 {5 1 0 0}; none {6 0 0 0}; ")
	m.Store(0, 5)
	m.Store(1, 4)
	wait(d, sched.Request{Kind: api.SendWait, Obj: 0, Delay: 9})
	wait(d, sched.Request{Kind: api.RecvWait, Obj: 0, Delay: 9})
	is(t, "ahead by very much", turn(d, m, none), "true: load 16; load 13; "+lines+"load 1; load 0; load 0; load 1 {5 1 0 0}; none {6 1 0 0}; ")
	// An object that there is not wakes nobody.
	wait(d, sched.Request{Kind: api.WaitAll, Obj: 7, Delay: 9})
	wait(d, sched.Request{Kind: api.RecvWait, Obj: math.MinInt, Delay: 9})
	is(t, "no object", turn(d, m, none), "true: load 13; "+lines+"load 1; load 0; none; none; none; ")
}

func TestP3403SchedSeenHeads(t *testing.T) {
	d, m := New(some()), plan.Memory(some())
	m.Store(13, 2)
	m.Store(5, 1)
	turn(d, m, none)
	is(t, "seen", told(d.Seen(), d.Heads()), told(2, []int{1, 0}))
	d.Heads()[0] = 9
	d.Sched().Note(0, 7)
	is(t, "itself, and a copy", told(d.Sched().Bits(0), d.Heads()), told(7, []int{1, 0}))
	d.seen, d.heads[0] = math.MaxUint32, math.MaxUint32
	m.Store(13, 1)
	m.Store(5, 0)
	is(t, "wraps", told(turn(d, m, none), d.Seen(), d.Heads()), told("true: load 14; load 13; none {2 0 0 0}; none {2 0 0 1}; load 5; load 7; store 4 0 {4 1 0 0}; load 10; none; ", 1, []int{0, 0}))
}

func TestP3404Laws(t *testing.T) {
	c := api.Config{Tasks: make([]api.Task, 16), Levels: make([]api.Level, 31), Objects: []api.Object{{Kind: api.Ring, Cap: 1, Width: 1}, {Kind: api.Flags}}}
	for i := range c.Levels {
		c.Levels[i].Room = 4
	}
	d, m := New(c), plan.Memory(c)
	p, _ := plan.Of(c)
	x := uint32(3)
	for range 200 {
		x = x*1664525 + 1013904223
		k, r := int(x>>8%4), 0
		tick, _ := m.Load(p.Tick)
		m.Store(p.Tick, tick+uint32(k))
		for i, l := range p.Lines {
			if x>>(i%8)%3 == 0 {
				m.Store(l.Q.At+1, d.Heads()[i]+2)
				r += 2
			}
		}
		if now := d.Sched().Current(); now >= 0 {
			m.Store(p.Ask[now], 1)
		}
		d.Begin(asking(sched.Request{Kind: []int{api.RecvWait, api.SendWait, api.Await, api.WaitAll, api.Yield}[x>>16%5], Obj: int(x >> 20 % 2), Mask: 1, Delay: 1 + x>>24%9}))
		n := 0
		for a, ok := d.Act(); ok; a, ok = d.Act() {
			got, _ := act.Do(m, nil, a)
			d.Take(got)
			n++
		}
		is(t, "steps", n <= 36+3*16+k+2*r, true)
		for who := range 16 {
			d.Sched().Taken(who)
			is(t, "states", d.Sched().State(who) >= task.Ready, true)
		}
	}
}
