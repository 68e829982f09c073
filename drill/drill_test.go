package drill

import (
	"fmt"
	"math"
	"testing"

	"bellrope/api"
	"bellrope/core"
	"bellrope/drain"
	"bellrope/gauss"
	"bellrope/rotor"
	"bellrope/sample"
)

// is compares what is told of two values.
func is(t *testing.T, what string, got, want any) {
	t.Helper()
	if fmt.Sprint(got) != fmt.Sprint(want) {
		t.Errorf("%s: %v, not %v", what, got, want)
	}
}

// told returns several results as one text.
func told(l ...any) string { return fmt.Sprintln(l...) }

// one: one task that gets flags and is refused a call, and a level.
func one() api.Config {
	return api.Config{Tasks: []api.Task{{Code: []api.Call{{Kind: api.Get}, {Kind: 99}}}}, Levels: []api.Level{{Room: 1, Code: []api.Call{{Kind: api.Post}}}}, Objects: []api.Object{{Kind: api.Flags}}}
}

// wheel: a rotor.
func wheel() rotor.Rotor {
	return rotor.Rotor{Z: gauss.Num{Re: 1}, A: gauss.Num{Re: 5, Im: 3}, C: gauss.Num{Im: 7}, P: 97}
}

func TestP4301OfRunChoices(t *testing.T) {
	r, ok := Of(one(), nil)
	is(t, "no choices", told(r, ok), told(Report{Clean: true}, true))
	choices := []int{0, 0, 1, 1, 7, -1}
	for range 26 {
		choices = append(choices, 0)
	}
	r, ok = Of(one(), choices)
	// Get takes 2 steps; the handler posts in 6 and leaves; level 0 takes 6; the refused call 1; Exit 3; level 0 behind it 5; then nobody proceeds.
	// The walk is farthest where level 0 ends: 3 units ahead, by the task, and 27 to the left, by the levels.
	want := Report{Steps: 28, Raises: 2, Entered: 3, Tasks: 6, Handlers: 7, Zero: 11, Rests: 4, Calls: 4, Answered: 3, Tries: 1, Worst: 6, Far: 738, Clean: true}
	want.Faults[api.OK], want.Faults[api.BadArg] = 2, 1
	is(t, "Of", told(r, ok), told(want, true))
	many := make([]int, 1<<16+1)
	for i := range many {
		many[i] = -1
	}
	_, most := Of(one(), many[1:])
	r, ok = Of(one(), many)
	_, valid := Of(api.Config{}, nil)
	is(t, "too many", told(most, r, ok, valid), told(true, Report{}, false, false))
	l, ok := Choices(one(), wheel(), 50, 3)
	taken, _, _ := rotor.Take(wheel(), 50, 1, 3)
	is(t, "Choices", told(l, ok), told(taken, true))
	ran, ok := Run(one(), wheel(), 50, 3)
	r, _ = Of(one(), l)
	is(t, "Run", told(ran, ok), told(r, true))
	for _, c := range []struct {
		c       api.Config
		r       rotor.Rotor
		n, calm int
	}{{api.Config{}, wheel(), 5, 3}, {one(), rotor.Rotor{}, 5, 3}, {one(), wheel(), -1, 3}, {one(), wheel(), 5, 0}, {one(), wheel(), 1<<16 + 1, 3}, {one(), wheel(), 5, 1001}} {
		l, ok := Choices(c.c, c.r, c.n, c.calm)
		r, is2 := Run(c.c, c.r, c.n, c.calm)
		is(t, "no choices", told(l, ok, r, is2), told([]int{}, false, Report{}, false))
	}
}

func TestP4302SumText(t *testing.T) {
	a := Report{1, 2, 3, 4, 5, 6, 7, 8, 9, 10, [16]int{0: 11, 15: 12}, 13, 14, true}
	b := Report{Steps: math.MaxInt, Far: 1, Faults: [16]int{3: -5, 15: 1}, Clean: true}
	is(t, "Sum", Sum(a, b), Report{math.MinInt, 2, 3, 4, 5, 6, 7, 8, 9, 10, [16]int{0: 11, 3: -5, 15: 13}, 13, 15, true})
	is(t, "Sum", told(Sum(), Sum(a), Sum(a, Report{}).Clean, Sum(Report{}, a).Clean), told(Report{Clean: true}, a, false, false))
	is(t, "Text", Text(a), "steps 1\nraises 2\nentered 3\ntasks 4\nhandlers 5\nzero 6\nrests 7\ncalls 8\nanswered 9\ntries 10\nfault 0 11\nfault 15 12\nworst 13\nfar 14\nclean yes\n")
	is(t, "Text", Text(Report{Steps: -1}), "steps -1\nraises 0\nentered 0\ntasks 0\nhandlers 0\nzero 0\nrests 0\ncalls 0\nanswered 0\ntries 0\nworst 0\nfar 0\nclean no\n")
}

func TestP4303Theorem(t *testing.T) {
	sum := Report{Clean: true}
	for seed := range uint32(250) {
		c := sample.Config(seed)
		choices := sample.Choices(seed+1000, len(c.Levels), 700)
		r, ok := Of(c, choices)
		is(t, fmt.Sprint("seed ", seed), told(ok, r.Clean), told(true, true))
		x, _ := core.Run(c, choices)
		is(t, "steps", told(r.Tasks+r.Handlers+r.Zero+r.Rests, x.Steps()), told(r.Steps, r.Steps))
		sum = Sum(sum, r)
	}
	for _, f := range []api.Fault{api.OK, api.BadArg, api.Missing, api.Full, api.Empty, api.Timeout, api.Owner, api.Context, api.Kind} {
		is(t, fmt.Sprint("fault ", f), sum.Faults[f] > 0, true)
	}
}

func TestConditions(t *testing.T) {
	asked := 0
	yes, no := func() bool { asked++; return true }, func() bool { asked++; return false }
	is(t, "all", told(all(nil), all([]func() bool{yes, yes}), all([]func() bool{yes, no, yes}), asked), told(true, true, false, 4))
	c := one()
	x, _ := core.Run(c, make([]int, 9))
	r := &run{config: c, choices: make([]int, 9), events: x.Events(), steps: x.Steps()}
	ops := []api.Op{{Call: api.Call{Kind: api.Get}, Done: true, End: 1}}
	is(t, "an order that is whole", told(all(r.clean(ops, []int{0})), all(r.clean(ops, nil))), told(true, false))
	r.events = append(r.events, core.Event{Step: 99, Ctx: api.Drain, Kind: core.Zero, E: drain.Event{Kind: drain.Applies, Who: 1}})
	is(t, "a record of no post", all(r.clean(ops, []int{0})), false)
	n := &counter{}
	for _, f := range []api.Fault{api.OK, api.State, 16, -1} {
		n.count(core.Event{Kind: core.Ends, R: api.Result{F: f}})
	}
	is(t, "faults", told(n.report.Answered, n.report.Faults), told(4, [16]int{0: 1, 15: 1}))
}

func TestLongRun(t *testing.T) {
	c := sample.Config(9)
	r, ok := Of(c, sample.Choices(9, len(c.Levels), 1<<16))
	is(t, "long", told(ok, r.Clean), told(true, true))
}
