package core

import (
	"fmt"
	"math"
	"math/bits"
	"strings"
	"testing"

	"bellrope/act"
	"bellrope/api"
	"bellrope/conf"
	"bellrope/plan"
)

// is compares what is told of two values.
func is(t *testing.T, what string, got, want any) {
	t.Helper()
	if fmt.Sprint(got) != fmt.Sprint(want) {
		t.Errorf("%s: %v, not %v", what, got, want)
	}
}

// told returns several results as one text.
func told(l ...any) string { return fmt.Sprintln(l...) }

// to returns a call.
func to(kind, obj int, n uint32, v ...uint32) api.Call {
	c := api.Call{Kind: kind, Obj: obj, N: n}
	copy(c.V[:], v)
	return c
}

// task returns a task.
func task(prio int, loop bool, code ...api.Call) api.Task {
	return api.Task{Prio: prio, Loop: loop, Code: code}
}

// level returns a level.
func level(room int, code ...api.Call) api.Level { return api.Level{Room: room, Code: code} }

// story tells events, each as who, what, and of what; a bar ends a step.
func story(l []Event) string {
	var b strings.Builder
	step := 0
	for _, e := range l {
		if e.Step != step {
			b.WriteString("| ")
			step = e.Step
		}
		b.WriteString(fmt.Sprint(e.Ctx, " "))
		switch e.Kind {
		case Begins:
			b.WriteString(fmt.Sprint("begins ", e.Call.Kind))
		case Does:
			b.WriteString(act.Text(e.Act))
		case Ends:
			b.WriteString(fmt.Sprint("ends ", int(e.R.F), " ", e.R.V[0]))
		case Zero:
			b.WriteString(fmt.Sprint("zero ", e.E.Kind))
		default:
			b.WriteString([]string{Enters: "enters", Leaves: "leaves", Rests: "rests", Again: "again"}[e.Kind])
		}
		b.WriteString("; ")
	}
	return b.String()
}

// run tells the run of a configuration.
func run(c api.Config, choices ...int) string {
	x, _ := Run(c, choices)
	return story(x.Events())
}

func TestP3501NewRun(t *testing.T) {
	x, bad := New(api.Config{})
	is(t, "not valid", told(x == nil, bad), told(true, api.Bad{F: api.Range, Part: conf.Counts}))
	x, bad = Run(api.Config{}, []int{0, 0})
	is(t, "not valid", told(x == nil, bad), told(true, api.Bad{F: api.Range, Part: conf.Counts}))
	c := api.Config{Tasks: []api.Task{task(0, false)}}
	x, bad = New(c)
	is(t, "new", told(bad, x.Steps(), x.Events(), x.Words(), x.Level(), x.Pending()), told(api.Bad{}, 0, []int{}, []int{0, 0}, -1, 0))
	is(t, "example", run(c, make([]int, 9)...), "0 begins 19; | 0 store 1 19; | 0 raise; | -32 enters; -32 load 1; | -32 store 1 0; -32 zero 1; | -32 load 0; | -32 none; -32 zero 6; -32 leaves; | -33 rests; | -33 rests; ")
	l := []api.Call{to(api.Get, 0, 0)}
	c = api.Config{Tasks: []api.Task{task(0, false, l...)}, Objects: []api.Object{{Kind: api.Flags, Init: api.Value{5}}}}
	x, _ = New(c)
	l[0].Kind, c.Objects[0].Kind, c.Tasks[0].Prio = 99, 99, 99
	x.Step()
	x.Step()
	is(t, "the configuration is not kept", story(x.Events()), "0 begins 9; | 0 load 0; 0 ends 0 5; ")
	x, _ = Run(api.Config{Tasks: []api.Task{task(0, false)}, Levels: []api.Level{level(1)}}, []int{5, -1, 1, 0, 0, math.MinInt})
	is(t, "wrong choices have no effect", story(x.Events()), "-1 enters; -1 leaves; | 0 begins 19; ")
}

func TestP3502RaiseStepDo(t *testing.T) {
	c := api.Config{Tasks: []api.Task{task(0, false)}, Levels: []api.Level{level(1), level(1), level(1)}}
	x, _ := New(c)
	is(t, "Raise", told(x.Raise(2), x.Raise(2), x.Raise(0), x.Raise(4), x.Raise(-1), x.Raise(math.MaxInt), x.Pending()), told(true, false, false, false, false, false, 4))
	is(t, "Do", told(x.Do(3), x.Do(3), x.Pending(), int(x.Do(4)), int(x.Do(-1)), int(x.Do(math.MinInt)), x.Steps()), told(0, 0, 12, 2, 2, 2, 0))
	is(t, "Step", told(x.Step(), x.Steps(), x.Level(), x.Do(0), x.Steps(), x.Pending()), told(true, 1, -1, 0, 2, 0))
	is(t, "story", story(x.Events()), "-3 enters; -3 leaves; | -2 enters; -2 leaves; ")
	var none *Core
	is(t, "nil", told(none.Raise(1), none.Step(), int(none.Do(0)), int(none.Do(9))), told(false, false, 15, 15))
	set := func(bit uint32) api.Call { return to(api.Set, 0, 0, bit) }
	c = api.Config{Tasks: []api.Task{task(0, true, set(1))}, Levels: []api.Level{level(1, set(2)), level(1, set(4)), level(1, set(8))}, Objects: []api.Object{{Kind: api.Flags}}}
	// Levels 1 and 3 come while level 2 is active: level 3 at once, level 1 behind both, and level 0 behind all.
	is(t, "nesting", run(c, 2, 0, 1, 3, 0, 3, 0, 0, 0, 0, 0, 0, 0, 0, 0, 0, 0),
		"-2 enters; -2 begins 7; | -3 enters; -3 begins 7; | -3 or 0 8; | -3 raise; -3 ends 0 0; | -3 leaves; | -3 enters; -3 begins 7; | -3 or 0 8; | -3 raise; -3 ends 0 8; | -3 leaves; | -2 or 0 4; | -2 raise; -2 ends 0 8; | -2 leaves; | -1 enters; -1 begins 7; ")
}

func TestSteps(t *testing.T) {
	flag := []api.Object{{Kind: api.Flags, Init: api.Value{1}}}
	is(t, "loops", run(api.Config{Tasks: []api.Task{task(0, true, to(api.Get, 0, 0), to(99, 0, 0))}, Objects: flag}, make([]int, 6)...), "0 begins 9; | 0 load 0; 0 ends 0 1; | 0 begins 99; 0 ends 1 0; | 0 again; | 0 begins 9; | 0 load 0; 0 ends 0 1; ")
	is(t, "a loop without code exits", run(api.Config{Tasks: []api.Task{task(0, true)}}, 0), "0 begins 19; ")
	is(t, "a handler that blocks", run(api.Config{Tasks: []api.Task{task(0, false)}, Levels: []api.Level{level(1, to(api.Sleep, 0, 4))}}, 1, 0, 0), "-1 enters; -1 begins 13; -1 ends 11 0; | -1 leaves; ")
	two := api.Config{Tasks: []api.Task{task(1, true, to(api.Set, 0, 0, 6)), task(2, false, to(api.WaitAny, 0, api.Forever, 2))}, Objects: flag}
	is(t, "wakes the more urgent one", run(two, make([]int, 22)...),
		"1 begins 16; | 1 load 0; | 1 store 3 16; | 1 raise; | -32 enters; -32 load 3; | -32 store 3 0; -32 zero 1; | -32 load 1; | -32 load 0; | -32 none; -32 zero 6; -32 leaves; | "+
			"0 begins 7; | 0 or 0 6; | 0 raise; 0 ends 0 1; | -32 enters; -32 load 2; | -32 load 1; | -32 load 0; -32 zero 5; | -32 none; -32 zero 6; -32 leaves; | 1 load 0; 1 ends 0 7; | 1 begins 19; | 1 store 3 19; | 1 raise; | -32 enters; -32 load 3; | -32 store 3 0; -32 zero 1; ")
	// The Raise of a request may come behind its answer; what is answered behind the Raise ends in a step of its own.
	one := api.Config{Tasks: []api.Task{task(0, false, to(api.Yield, 0, 0))}, Levels: []api.Level{level(1, to(api.Set, 0, 0))}, Objects: flag}
	is(t, "answered early", run(one, 0, 0, 1, 0, 0, 0, 0, 0, 0, 0, 0, 0, 0, 0),
		"0 begins 12; | 0 store 6 12; | -1 enters; -1 begins 7; | -1 or 0 0; | -1 raise; -1 ends 0 1; | -1 leaves; | -32 enters; -32 load 6; | -32 store 6 0; -32 zero 1; | -32 load 5; | -32 load 2; | -32 none; -32 leaves; | 0 raise; 0 ends 0 0; | -32 enters; -32 load 6; ")
	is(t, "answered late", run(one, make([]int, 9)...), "0 begins 12; | 0 store 6 12; | 0 raise; | -32 enters; -32 load 6; | -32 store 6 0; -32 zero 1; | -32 load 5; | -32 load 2; | -32 none; -32 leaves; | 0 none; 0 ends 0 0; ")
}

func TestP3503Reports(t *testing.T) {
	c := api.Config{Tasks: []api.Task{task(0, false)}, Levels: []api.Level{level(1), level(1, to(api.Set, 0, 0, 4))}, Objects: []api.Object{{Kind: api.Flags, Init: api.Value{1}}}}
	x, _ := Run(c, []int{2, 0, 0, 1})
	is(t, "reports", told(x.Steps(), x.Words()[0], x.Level(), x.Pending(), x.Mask(), len(x.Events())), told(2, 5, 2, 2, 0, 3))
	e := x.Events()
	is(t, "events", e, []Event{{Ctx: -2, Kind: Enters}, {Ctx: -2, Kind: Begins, Call: to(api.Set, 0, 0, 4)}, {Step: 1, Ctx: -2, Kind: Does, Act: api.Act{Op: api.Or, V: 4}, Got: 1}})
	e[0].Kind, x.Words()[0] = 99, 99
	is(t, "copies", told(x.Events()[0].Kind, x.Words()[0]), told(Enters, 5))
	var none *Core
	is(t, "nil", told(none.Events(), none.Steps(), none.Words(), none.Level(), none.Pending(), none.Mask()), told([]int{}, 0, []int{}, -1, 0, 0))
	is(t, "kinds", told(Begins, Does, Ends, Enters, Leaves, Zero, Rests, Again), told(1, 2, 3, 4, 5, 6, 7, 8))
}

func TestP3504Insides(t *testing.T) {
	c := api.Config{Tasks: []api.Task{task(0, false, to(api.Sleep, 0, 9))}, Levels: []api.Level{level(2, to(api.Tick, 0, 0), to(api.Post, 0, 0, 6))}, Ticker: 1}
	x, _ := New(c)
	now := func(ctx int) string { return fmt.Sprint(x.Now(ctx)) }
	asks := func(ctx int) string { return fmt.Sprint(x.Asks(ctx)) }
	none, nothing := fmt.Sprint(api.Call{}, api.Act{}, false), "{0 0 0 0 0} false"
	is(t, "new", told(now(0), now(-1), now(5), now(math.MinInt), asks(0), asks(-1), asks(7)), told(none, none, none, none, nothing, nothing, nothing))
	x.Step()
	is(t, "begun", told(now(0), asks(0)), told(fmt.Sprint(to(api.Sleep, 0, 9), api.Act{Op: api.Store, At: 6, V: 13}, true), nothing))
	x.Step()
	is(t, "stored", told(now(0), asks(0)), told(fmt.Sprint(to(api.Sleep, 0, 9), api.Act{Op: api.Raise}, true), "{13 0 0 9 0} true"))
	x.Step()
	is(t, "raised", told(now(0), asks(0)), told(fmt.Sprint(to(api.Sleep, 0, 9), api.Act{}, true), "{13 0 0 9 0} true"))
	x.Raise(1)
	for range 30 {
		x.Step()
	}
	is(t, "sleeps", told(x.Sched().State(0), x.Sched().Bits(0), x.Sched().Current(), x.Seen(), x.Heads()), told(3, 6, -1, 1, []int{1}))
	x.Sched().Note(0, 8)
	x.Heads()[0] = 9
	is(t, "copies", told(x.Sched().Bits(0), x.Heads()), told(6, []int{1}))
	var nobody *Core
	r, ok := nobody.Asks(0)
	k, a, busy := nobody.Now(0)
	is(t, "nil", told(nobody.Sched() == nil, nobody.Seen(), nobody.Heads(), r, ok, k, a, busy), told(true, 0, []int{}, "{0 0 0 0 0}", false, api.Call{}, api.Act{}, false))
}

func TestP3505Laws(t *testing.T) {
	c := api.Config{Tasks: []api.Task{task(1, true, to(api.Send, 0, 0, 1), to(api.Await, 0, 3), to(api.Set, 1, 0, 7)), task(2, true, to(api.RecvWait, 0, 2), to(api.Sleep, 0, 2))}, Ticker: 3,
		Levels:  []api.Level{level(1, to(api.Post, 0, 0, 1)), level(2, to(api.Set, 1, 0, 1), to(api.Sleep, 0, 0)), level(1, to(api.Tick, 0, 0))},
		Objects: []api.Object{{Kind: api.Ring, Cap: 2, Width: 1, From: 0, To: 1}, {Kind: api.Flags}}}
	x, _ := New(c)
	seed := uint32(5)
	p, _ := plan.Of(c)
	for range 20000 {
		seed = seed*1664525 + 1013904223
		if seed>>28 < 3 {
			x.Do(1 + int(seed>>16%3))
			continue
		}
		top, pending, before := x.Level(), bits.Len32(x.Pending())-1, len(x.events)
		x.Step()
		acts, ctx := 0, x.events[before].Ctx
		for _, e := range x.events[before:] {
			is(t, "one context", told(e.Ctx, e.Step), told(ctx, x.Steps()-1))
			if e.Kind == Does {
				acts++
			}
		}
		want := ctx
		if k := max(top, pending); k > 0 {
			want = -k
		} else if k == 0 {
			want = api.Drain
		}
		is(t, "owner", told(ctx, x.events[before].Kind == Enters, acts <= 1, x.Mask()), told(want, pending > top, true, 0))
	}
	is(t, "cells", len(x.Words()), p.Cells)
}
