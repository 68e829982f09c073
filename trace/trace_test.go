package trace

import (
	"fmt"
	"testing"

	"bellrope/api"
	"bellrope/core"
	"bellrope/drain"
	"bellrope/hist"
	"bellrope/rule"
	"bellrope/sample"
)

// is compares what is told of two values.
func is(t *testing.T, what string, got, want any) {
	t.Helper()
	if fmt.Sprint(got) != fmt.Sprint(want) {
		t.Errorf("%s: %v, not %v", what, got, want)
	}
}

// told returns several results as one text.
func told(l ...any) string { return fmt.Sprintln(l...) }

// waits: a task that waits for what a handler sends.
func waits() api.Config {
	return api.Config{Tasks: []api.Task{{Code: []api.Call{{Kind: api.RecvWait, N: api.Forever}, {Kind: api.Get, Obj: 1}}}}, Levels: []api.Level{{Room: 1, Code: []api.Call{{Kind: api.Send, V: api.Value{5}}}}},
		Objects: []api.Object{{Kind: api.Ring, Cap: 1, Width: 1, From: -1}, {Kind: api.Flags}}}
}

// run returns the events of a run.
func run(c api.Config, choices ...int) ([]core.Event, int) {
	x, _ := core.Run(c, choices)
	return x.Events(), x.Steps()
}

// waited: the choices of a run in which the task is woken.
func waited() []int {
	l := make([]int, 40)
	l[14] = 1
	return l
}

func TestP3601Calls(t *testing.T) {
	l, _ := run(waits(), waited()...)
	calls := Calls(l)
	is(t, "Calls", calls, []api.Op{{Call: api.Call{Kind: api.RecvWait, N: api.Forever}, Result: api.Result{V: api.Value{5}}, Done: true, Begin: 0, End: 30}, {Who: -1, Call: api.Call{Kind: api.Send, V: api.Value{5}}, Done: true, Begin: 14, End: 19},
		{Index: 1, Call: api.Call{Kind: api.Get, Obj: 1}, Done: true, Begin: 35, End: 36}, {Index: 2, Call: api.Call{Kind: api.Exit}, Begin: 37}})
	is(t, "cut off", Calls([]core.Event{{Kind: core.Ends, Ctx: 1}, {Kind: core.Begins, Ctx: 1, Step: 2}, {Kind: core.Begins, Ctx: 1, Step: 3}, {Kind: core.Begins, Ctx: 2, Step: 4}, {Kind: core.Ends, Ctx: 1, Step: 5, R: api.Result{F: 6}}, {Kind: core.Ends, Ctx: 1, Step: 6}}),
		[]api.Op{{Who: 1, Begin: 2}, {Who: 1, Index: 1, Begin: 3, Done: true, End: 5, Result: api.Result{F: 6}}, {Who: 2, Begin: 4}})
	is(t, "none", len(Calls(nil)), 0)
}

func TestP3602Tries(t *testing.T) {
	l, _ := run(waits(), waited()...)
	recv, send := api.Call{Kind: api.Recv}, api.Call{Kind: api.Send, V: api.Value{5}}
	want := []api.Op{{Call: recv, Result: api.Result{F: api.Empty}, Done: true, Begin: 0, End: 2}, {Who: -1, Call: send, Done: true, Begin: 14, End: 18}, {Index: 1, Call: recv, Result: api.Result{V: api.Value{5}}, Done: true, Begin: 26, End: 29}, {Index: 2, Call: api.Call{Kind: api.Get, Obj: 1}, Done: true, Begin: 35, End: 36}}
	is(t, "Tries", Tries(waits(), l), want)
	l, _ = run(waits(), waited()[:29]...)
	is(t, "not done", Tries(waits(), l), []api.Op{want[0], want[1], {Index: 1, Call: recv, Begin: 26}})
	is(t, "not valid", Tries(api.Config{}, l), []api.Op{})
	c := waits()
	c.Tasks[0].Code = []api.Call{{Kind: api.Send}, {Kind: api.Yield}, {Kind: api.Get, Obj: 1, N: 7}, {Kind: api.Get, Obj: 0}}
	l, _ = run(c, make([]int, 20)...)
	is(t, "only calls to objects, without a fault", Tries(c, l), []api.Op{{Call: api.Call{Kind: api.Get, Obj: 1}, Done: true, Begin: 10, End: 11}})
	load := func(step int, got uint32) core.Event {
		return core.Event{Kind: core.Does, Step: step, Act: api.Act{Op: api.Load}, Got: got}
	}
	cut := []core.Event{{Kind: core.Begins, Call: recv}, load(1, 0), {Kind: core.Begins, Step: 2, Call: recv}, load(3, 0), {Kind: core.Does, Step: 4}, load(5, 0), {Kind: core.Begins, Step: 6, Call: api.Call{Kind: api.Yield}}, load(7, 0), load(8, 0), load(9, 0)}
	once := []core.Event{{Kind: core.Begins, Call: api.Call{Kind: api.Get, Obj: 1}}, load(1, 6), load(2, 0), load(3, 0), load(4, 0)}
	is(t, "no try behind one that succeeds", Tries(waits(), once), []api.Op{{Call: api.Call{Kind: api.Get, Obj: 1}, Done: true, End: 1, Result: api.Result{V: api.Value{6}}}})
	is(t, "cut off", Tries(waits(), cut), []api.Op{{Call: recv}, {Index: 1, Call: recv, Begin: 2, Done: true, End: 5, Result: api.Result{F: api.Empty}}})
}

func TestP3603Log(t *testing.T) {
	l, steps := run(waits(), waited()...)
	log := Log(waits(), l, steps)
	is(t, "Log", told(log.Ops, len(log.Seen), log.Cells), told(Tries(waits(), l), steps, []int{}))
	is(t, "Seen", log.Seen[:5], "[{0 0 {0 0 0} 0} {1 0 {1 0 0} 0} {2 0 {1 1 0} 0} {3 0 {2 9 15} 0} {4 0 {6 0 0} 0}]")
	is(t, "Seen of others", told(log.Seen[5].Who, log.Seen[14], log.Seen[15].Who), told(api.Drain, api.Seen{Step: 14}, -1))
	is(t, "fewer steps", told(Log(waits(), l, 3).Seen, Log(waits(), l, -1).Seen, len(Log(waits(), l, steps+5).Seen)), told(log.Seen[:3], []int{}, steps+5))
	is(t, "not valid", told(len(Log(api.Config{}, l, 5).Seen), Log(api.Config{}, l, 5).Ops), told(5, []int{}))
	twice := []core.Event{{Kind: core.Does, Step: 1, Ctx: 3}, {Kind: core.Does, Step: 1, Ctx: 4}, {Kind: core.Does, Step: -1, Ctx: 5}, {Kind: core.Does, Step: 9, Ctx: 6}}
	is(t, "first of a step", Log(waits(), twice, 2).Seen, []api.Seen{{}, {Step: 1, Who: 3}})
}

func TestP3604Counts(t *testing.T) {
	l, _ := run(waits(), waited()...)
	is(t, "Own", told(Own(l, 0), Own(l, -1), Own(l, api.Drain), Own(l, 7)), told(11, 5, 16, 0))
	is(t, "Count", told(Count(l, core.Enters), Count(l, core.Begins), Count(l, core.Ends), Count(l, 99)), told(4, 4, 3, 0))
	is(t, "Zeros", told(len(Zeros(l, drain.Wakes)), Zeros(l, drain.Wakes)[0].E, len(Zeros(l, drain.Serves)), Zeros(l, 99)), told(1, drain.Event{Kind: drain.Wakes}, 1, []int{}))
	is(t, "Zeros of others", Zeros([]core.Event{{Kind: core.Does, E: drain.Event{Kind: 3}}}, 3), []core.Event{})
	is(t, "Answers", told(Answers(l, 0), Answers(l, -1), Answers(l, 5)), told([]api.Result{{V: api.Value{5}}, {}}, []api.Result{{}}, []int{}))
}

func TestP3605Laws(t *testing.T) {
	for seed := range uint32(120) {
		c := sample.Config(seed)
		l, steps := run(c, sample.Choices(seed, len(c.Levels), 600)...)
		calls, tries := Calls(l), Tries(c, l)
		is(t, "do not overlap", told(hist.Right(calls), hist.Right(tries)), told(true, true))
		is(t, "steps", len(Log(c, l, steps).Seen), steps)
		for _, o := range calls {
			if len(rule.Needs(o.Call.Kind)) == 0 || rule.Blocks(o.Call.Kind) || rule.First(c, o.Who, o.Call) != api.OK || !o.Done {
				continue
			}
			n := 0
			for _, a := range hist.Whose(tries, o.Who) {
				if a.Begin == o.Begin {
					n++
					is(t, "same result", told(a.Result, a.Call, a.Done), told(o.Result, api.Call{Kind: o.Call.Kind, Obj: o.Call.Obj, V: o.Call.V}, true))
				}
			}
			is(t, "one try", n, 1)
		}
	}
}
