package console

import (
	"strings"
	"testing"

	"bellrope/api"
	"bellrope/core"
	"bellrope/drain"
	"bellrope/order"
	"bellrope/text"
	"bellrope/trace"
)

// machine returns the configuration and the machine behind a script.
func machine(t *testing.T, script ...string) (api.Config, *core.Core) {
	t.Helper()
	s := strings.Join(script, "\n")
	c, choices, line, f := text.Parse(s)
	if f != api.OK {
		t.Fatal(line, f)
	}
	x, bad := core.Run(c, choices)
	if x == nil {
		t.Fatal(bad)
	}
	if !strings.Contains(Play(s), "\nclean yes\n") {
		t.Error("not clean")
	}
	return c, x
}

// steps returns a row of choices: n steps.
func steps(n int) string { return "choose" + strings.Repeat(" 0", n) }

// first returns the index of the first event that is looked for.
func first(l []core.Event, is func(core.Event) bool) int {
	for i, e := range l {
		if is(e) {
			return i
		}
	}
	return len(l)
}

// The examples of the document, by their numbers.

func TestExample1(t *testing.T) {
	_, x := machine(t, "task 1 0", steps(20))
	is(t, "Exit", []int{x.Sched().Current(), trace.Count(x.Events(), core.Enters), x.Sched().State(0)}, []int{-1, 1, 4})
	is(t, "served", trace.Zeros(x.Events(), drain.Serves)[0].E, drain.Event{Kind: drain.Serves, What: api.Exit})
}

func TestExample2(t *testing.T) {
	c, x := machine(t, "object 1 1 1 0 -1 0 0 0 0 0", "task 1 0", "recvwait 0 0 0 0 0 4294967295", "level 1", "send 0 5", steps(14), "choose 1", steps(30))
	tries := trace.Tries(c, x.Events())
	is(t, "tries", []api.Result{tries[0].Result, tries[1].Result, tries[2].Result}, []api.Result{{F: api.Empty}, {}, {V: api.Value{5}}})
	is(t, "answer", trace.Answers(x.Events(), 0), []api.Result{{V: api.Value{5}}})
	is(t, "woken", len(trace.Zeros(x.Events(), drain.Wakes)), 1)
}

func TestExample3(t *testing.T) {
	_, x := machine(t, "task 1 0", "level 1", "level 1", "get 0", "get 0", "level 1", "choose 2 0 1 3", steps(20))
	var entered []int
	for _, e := range x.Events() {
		if e.Kind == core.Enters {
			entered = append(entered, e.Ctx)
		}
	}
	is(t, "entered", entered[:3], []int{-2, -3, -1})
	l := x.Events()
	left := first(l, func(e core.Event) bool { return e.Kind == core.Leaves && e.Ctx == -2 })
	is(t, "behind level 2", first(l, func(e core.Event) bool { return e.Kind == core.Enters && e.Ctx == -1 }) > left, true)
}

func TestExample4(t *testing.T) {
	_, x := machine(t, "task 1 0", "level 1", "sleep 0 0 0 0 0 3", "choose 1 0 0")
	is(t, "Sleep", []any{trace.Answers(x.Events(), -1), trace.Own(x.Events(), -1), trace.Calls(x.Events())[0].End}, []any{[]api.Result{{F: api.Context}}, 0, 0})
}

func TestExample5(t *testing.T) {
	c, x := machine(t, "task 1 0", "level 1", "post 0 1", "post 0 2", "choose 1", steps(30))
	posts := order.Of(c, x.Events())
	is(t, "results", []api.Fault{posts[0].F, posts[1].F}, []api.Fault{api.OK, api.Full})
	task := first(x.Events(), func(e core.Event) bool { return e.Ctx == 0 })
	is(t, "applied before a step of the task", posts[0].Done > 0 && posts[0].Done < x.Events()[task].Step, true)
}

func TestExample6(t *testing.T) {
	_, x := machine(t, "object 4 0 0 0 0 0 0 0 0 0", "task 2 0", "waitany 0 1 0 0 0 9", "task 1 0", "set 0 1", "yield", steps(40))
	l := x.Events()
	raise := first(l, func(e core.Event) bool { return e.Ctx == 1 && e.Act.Op == api.Raise })
	next := raise + 2 + first(l[raise+2:], func(e core.Event) bool { return e.Ctx >= 0 })
	is(t, "its steps come next", l[next].Ctx, 0)
}

func TestExample7(t *testing.T) {
	for _, call := range []string{"try 0", "again 0"} {
		_, x := machine(t, "object 3 0 2 8 0 0 1 2 0 0", "task 1 0", "write 0 8 9", "level 1", call, steps(4), "choose 1", steps(30))
		is(t, call, trace.Answers(x.Events(), -1), []api.Result{{F: api.Busy}})
	}
}

func TestExample8(t *testing.T) {
	for n := 1; n < 8; n++ {
		_, x := machine(t, "object 2 0 2 0 0 -1 1 2 0 0", "task 1 0", "write 0 8 9", "level 1", "read 0", steps(n), "choose 1", steps(30))
		want := api.Value{1, 2}
		if n >= 7 {
			want = api.Value{8, 9}
		}
		is(t, "read in the middle", trace.Answers(x.Events(), -1), []api.Result{{V: want}})
	}
}
