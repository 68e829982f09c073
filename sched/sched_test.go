package sched

import (
	"fmt"
	"math"
	"slices"
	"testing"

	"bellrope/api"
	"bellrope/queue"
	"bellrope/task"
)

// is compares what is told of two values.
func is(t *testing.T, what string, got, want any) {
	t.Helper()
	if fmt.Sprint(got) != fmt.Sprint(want) {
		t.Errorf("%s: %v, not %v", what, got, want)
	}
}

// told returns several results as one text.
func told(l ...any) string { return fmt.Sprintln(l...) }

// of returns a scheduler of tasks with these priorities.
func of(prios ...int) *Sched {
	l := make([]api.Task, len(prios))
	for i, p := range prios {
		l[i].Prio = p
	}
	return New(l)
}

// dispatch tells what Dispatch answers.
func dispatch(s *Sched) string { return fmt.Sprint(s.Dispatch()) }

// taken tells what Taken answers.
func taken(s *Sched, t int) string { return fmt.Sprint(s.Taken(t)) }

// left tells what Left answers.
func left(s *Sched, t int) string { return fmt.Sprint(s.Left(t)) }

// next tells what Next answers.
func next(s *Sched, t int) string { return fmt.Sprint(s.Next(t)) }

const nothing = "{false 0 0} false"

func TestP2701NewDispatchCurrent(t *testing.T) {
	s := of(3, 7, 32, 7, -1)
	is(t, "New", told(s.Current(), s.Ready(), s.State(0), s.State(2), s.State(4), s.State(5)), told(1, []int{1, 3, 0}, task.Ready, task.Ended, task.Ended, 0))
	is(t, "Dispatch", told(dispatch(s), s.Current()), told("1 false", 1))
	s.Serve(Request{Kind: api.Exit})
	is(t, "not before Dispatch", told(s.Current(), dispatch(s), dispatch(s), s.Current()), told(1, "3 true", "3 false", 3))
	for range 2 {
		s.Serve(Request{Kind: api.Exit})
		s.Dispatch()
	}
	is(t, "nobody", told(s.Current(), dispatch(s), s.Ready()), told(-1, "-1 false", []int{}))
	is(t, "no tasks", told(of().Current(), dispatch(New(nil))), told(-1, "-1 false"))
	is(t, "too many", told(len(of(make([]int, 20)...).Ready()), of(make([]int, 20)...).State(16)), told(16, 0))
	var none *Sched
	is(t, "nil", told(none.Current(), dispatch(none), int(none.Serve(Request{Kind: api.Yield}))), told(-1, "-1 false", 4))
}

func TestP2702Serve(t *testing.T) {
	s := of(1, 1)
	is(t, "Yield", told(s.Serve(Request{Kind: api.Yield}), s.Ready(), s.Current(), taken(s, 0), taken(s, 0)), told(0, []int{1, 0}, 0, "{true 0 0} true", nothing))
	s = of(1, 1)
	is(t, "Sleep 0", told(s.Serve(Request{Kind: api.Sleep}), s.Ready(), taken(s, 0), s.State(0)), told(0, []int{1, 0}, "{true 0 0} true", task.Ready))
	is(t, "Sleep", told(s.Serve(Request{Kind: api.Sleep, Delay: 5, Obj: 3}), s.Ready(), taken(s, 0), s.State(0), left(s, 0), s.Waits()), told(0, []int{1}, nothing, task.Sleeps, "5 true", []int{}))
	s = of(1)
	is(t, "Sleep 1", told(s.Serve(Request{Kind: api.Sleep, Delay: 1}), left(s, 0), s.State(0)), told(0, "1 true", task.Sleeps))
	s = of(1)
	is(t, "Sleep forever", told(s.Serve(Request{Kind: api.Sleep, Delay: api.Forever}), left(s, 0), s.State(0)), told(0, "0 false", task.Sleeps))
	for _, kind := range []int{api.SendWait, api.RecvWait, api.WaitAny, api.WaitAll, api.Await} {
		s = of(1, 1)
		is(t, "no wait", told(s.Serve(Request{Kind: kind, Obj: 3, Mask: 6}), s.Ready(), taken(s, 0), s.State(0)), told(0, []int{0, 1}, "{false 0 0} true", task.Ready))
		want := queue.Wait{Task: 0, Kind: kind, Obj: 3, Mask: 6}
		if kind == api.Await {
			want = queue.Wait{Task: 0, Kind: kind}
		}
		is(t, "wait", told(s.Serve(Request{Kind: kind, Obj: 3, Mask: 6, Delay: 4, Bits: 9}), s.Ready(), taken(s, 0), s.State(0), left(s, 0), s.Waits()), told(0, []int{1}, nothing, task.Waits, "4 true", []queue.Wait{want}))
		s = of(1)
		s.Serve(Request{Kind: kind, Delay: api.Forever})
		is(t, "wait forever", told(left(s, 0), s.State(0)), told("0 false", task.Waits))
	}
	s = of(1, 1)
	s.Note(0, 6)
	is(t, "Await with bits", told(s.Serve(Request{Kind: api.Await, Delay: 9}), taken(s, 0), s.Bits(0), s.State(0), s.Ready()), told(0, "{true 6 9} true", 0, task.Ready, []int{0, 1}))
	is(t, "Post", told(s.Serve(Request{Kind: api.Post, Obj: 1, Bits: 5}), s.Bits(1), taken(s, 0), s.Ready()), told(0, 5, "{true 0 0} true", []int{0, 1}))
	is(t, "Post to itself", told(s.Serve(Request{Kind: api.Post, Obj: 0, Bits: 5}), s.Bits(0)), told(0, 5))
	for _, obj := range []int{-1, 2, math.MinInt, math.MaxInt} {
		is(t, "Post to none", told(int(s.Serve(Request{Kind: api.Post, Obj: obj, Bits: 5})), s.Bits(1)), told(4, 5))
	}
	taken(s, 0)
	for _, kind := range []int{0, api.Send, api.Tick, 20, -1, math.MaxInt} {
		is(t, "other kinds", told(int(s.Serve(Request{Kind: kind, Delay: 1})), s.Ready(), taken(s, 0)), told(12, []int{0, 1}, nothing))
	}
	is(t, "Exit", told(s.Serve(Request{Kind: api.Exit}), s.State(0), s.Ready(), taken(s, 0)), told(0, task.Ended, []int{1}, nothing))
	for _, kind := range []int{api.Yield, api.Sleep, api.RecvWait, api.Exit} {
		is(t, "no longer ready", told(s.Serve(Request{Kind: kind, Delay: 3}), s.State(0), left(s, 0), s.Waits(), taken(s, 0), s.Ready()), told(0, task.Ended, "0 false", []int{}, nothing, []int{1}))
	}
	is(t, "no task is current", int(of().Serve(Request{Kind: 99})), 15)
}

func TestP2703Tick(t *testing.T) {
	s := of(5, 5, 5, 5, 5)
	for _, r := range []Request{{Kind: api.Sleep, Delay: 2}, {Kind: api.RecvWait, Delay: 1}, {Kind: api.Await, Delay: 2}, {Kind: api.WaitAny, Delay: api.Forever}} {
		s.Serve(r)
		s.Dispatch()
	}
	s.Note(2, 7)
	is(t, "first", told(s.Tick(), s.Ready(), taken(s, 1), s.State(1), len(s.Waits())), told([]int{1}, []int{4, 1}, "{false 0 0} true", task.Ready, 2))
	is(t, "second", told(s.Tick(), s.Ready(), taken(s, 0), taken(s, 2), s.Bits(2), s.Waits()), told([]int{0, 2}, []int{4, 1, 0, 2}, "{true 0 0} true", "{false 0 0} true", 7, "[{3 16 0 0}]"))
	is(t, "third", told(s.Tick(), s.Current()), told([]int{}, 4))
	var none *Sched
	is(t, "nil", none.Tick(), []int{})
}

func TestP2704NoteDueWake(t *testing.T) {
	s := of(5, 5, 5, 5)
	for _, r := range []Request{{Kind: api.Await, Delay: 9}, {Kind: api.WaitAny, Obj: 2, Delay: api.Forever}, {Kind: api.Sleep, Delay: 3}} {
		s.Serve(r)
		s.Dispatch()
	}
	s.Tick()
	is(t, "Due", told(s.Due(0), s.Note(0, 4), s.Note(0, 1), s.Due(0), s.Note(1, 2), s.Due(1), s.Due(3)), told(false, true, true, true, true, false, false))
	is(t, "Wake", told(s.Wake(0), taken(s, 0), s.Bits(0), left(s, 0), s.Ready(), s.Due(0)), told(true, "{true 5 8} true", 0, "0 false", []int{3, 0}, false))
	is(t, "Wake, no limit", told(s.Wake(1), taken(s, 1), s.Bits(1), s.Waits(), s.Ready()), told(true, "{true 0 4294967295} true", 2, []int{}, []int{3, 0, 1}))
	is(t, "no Wake", told(s.Wake(0), s.Wake(2), s.State(2), left(s, 2), s.Wake(3)), told(false, false, task.Sleeps, "2 true", false))
	for _, x := range []int{-1, 4, math.MinInt, math.MaxInt} {
		is(t, "no task", told(s.Note(x, 1), s.Due(x), s.Wake(x)), told(false, false, false))
	}
	var none *Sched
	is(t, "nil", told(none.Note(0, 1), none.Due(0), none.Wake(0)), told(false, false, false))
}

func TestP2705Reports(t *testing.T) {
	s := of(1, 2, 3, 4)
	for range 3 {
		s.Serve(Request{Kind: api.RecvWait, Obj: s.Current(), Delay: 8})
		s.Dispatch()
	}
	is(t, "waits", told(s.Waits(), next(s, 3), next(s, 1), next(s, 0)), told("[{3 15 3 0} {2 15 2 0} {1 15 1 0}]", "{2 15 2 0} true", "{0 0 0 0} false", "{3 15 3 0} true"))
	c := s.Copy()
	c.Wake(2)
	c.Dispatch()
	s.Note(0, 9)
	s.Tick()
	is(t, "Copy", told(s.Current(), s.State(2), s.Bits(0), left(s, 1), c.Current(), c.State(2), c.Bits(0), left(c, 1), taken(c, 2), taken(s, 2)),
		told(0, task.Waits, 9, "7 true", 2, task.Ready, 0, "8 true", "{true 0 8} true", nothing))
	for _, x := range []int{-1, 4, math.MinInt, math.MaxInt} {
		is(t, "no task", told(taken(s, x), s.State(x), s.Bits(x), left(s, x)), told(nothing, 0, 0, "0 false"))
	}
	var none *Sched
	is(t, "nil", told(taken(none, 0), none.State(0), none.Bits(0), none.Ready(), none.Waits(), next(none, 0), left(none, 0), none.Copy() == nil), told(nothing, 0, 0, []int{}, []int{}, "{0 0 0 0} false", "0 false", true))
}

func TestP2706Laws(t *testing.T) {
	x := uint32(1)
	for range 60 {
		s := of(1, 1, 2, 3, 3, 9, 40)
		for range 120 {
			x = x*1664525 + 1013904223
			who := int(x >> 8 % 7)
			switch x >> 28 {
			case 0, 1, 2:
				s.Tick()
			case 3, 4:
				s.Wake(who)
			case 5:
				s.Note(who, 1<<(x>>16%3))
			case 6, 7, 8, 9:
				s.Dispatch()
			default:
				kinds := []int{api.Yield, api.Sleep, api.SendWait, api.Await, api.Post, api.WaitAny, api.Exit}
				s.Serve(Request{Kind: kinds[x>>16%uint32(len(kinds))], Delay: x >> 20 % 4, Obj: who})
			}
			for n := range 7 {
				_, waits := s.waits.Find(n)
				_, timed := s.Left(n)
				state := s.State(n)
				is(t, "ready", slices.Contains(s.Ready(), n), state == task.Ready)
				is(t, "waits", waits, state == task.Waits)
				is(t, "timed", timed && (state == task.Ready || state == task.Ended), false)
			}
		}
	}
}
