package gap

import (
	"fmt"
	"math"
	"testing"

	"bellrope/api"
	"bellrope/core"
	"bellrope/sample"
)

// is compares what is told of two values.
func is(t *testing.T, what string, got, want any) {
	t.Helper()
	if fmt.Sprint(got) != fmt.Sprint(want) {
		t.Errorf("%s: %v, not %v", what, got, want)
	}
}

// told returns several results as one text.
func told(l ...any) string { return fmt.Sprintln(l...) }

// event returns an event of a context in a step.
func event(step, ctx, kind int) core.Event { return core.Event{Step: step, Ctx: ctx, Kind: kind} }

// some: a configuration with levels whose handlers do several things.
func some() api.Config {
	return api.Config{Tasks: make([]api.Task, 2), Ticker: 2, Objects: []api.Object{{Kind: api.Ring, Cap: 1, Width: 2, From: -1, To: 0}},
		Levels: []api.Level{{Room: 1, Code: []api.Call{{Kind: api.Send}, {Kind: api.Post}, {Kind: api.Sleep}}}, {Room: 1, Code: []api.Call{{Kind: api.Tick}}}, {Room: 1}}}
}

func TestP4001OfWorst(t *testing.T) {
	x, _ := core.Run(api.Config{Tasks: make([]api.Task, 1)}, make([]int, 8))
	is(t, "example", Of(x.Events(), 8), []Gap{{0, 0, 0, 0, 0}, {1, 1, 0, 0, 0}, {2, 2, 0, 0, 0}, {3, 8, 4, 0, 1}})
	l := []core.Event{event(0, -2, core.Enters), event(0, -2, core.Begins), event(1, -2, core.Begins), event(2, api.Drain, core.Enters), event(2, api.Drain, core.Does), event(3, 0, core.Does), event(3, 0, core.Ends), event(4, 5, core.Begins), event(6, api.Drain, core.Does)}
	is(t, "Of", Of(l, 9), []Gap{{0, 3, 1, 2, 2}, {4, 4, 0, 0, 0}, {5, 9, 1, 0, 3}})
	is(t, "fewer steps", told(Of(l, 4), Of(l, 3), Of(l, 0), Of(l, -1), Of(l, math.MinInt)), told([]Gap{{0, 3, 1, 2, 2}, {4, 4, 0, 0, 0}}, []Gap{{0, 3, 1, 2, 2}}, []Gap{{}}, []Gap{{}}, []Gap{{}}))
	is(t, "none", told(Of(nil, 0), Of(nil, 5), Of(nil, 1<<31)), told([]Gap{{}}, []Gap{{0, 5, 0, 0, 5}}, []Gap{{0, 1 << 31, 0, 0, 1 << 31}}))
	is(t, "any steps", Of([]core.Event{event(-3, 0, core.Does), event(math.MaxInt, 0, core.Does), event(math.MinInt, 0, 0)}, 2), []Gap{{0, 2, 0, 0, 2}})
	is(t, "any events in a step", Of([]core.Event{event(1, -1, core.Does), event(1, 0, core.Does), event(2, -1, core.Does), event(2, api.Drain, core.Does)}, 4), []Gap{{0, 1, 0, 0, 1}, {2, 4, 1, 0, 1}})
	is(t, "far apart, in any order", Of([]core.Event{event(1<<40, 1, core.Does), event(7, -1, core.Begins), event(1<<39, api.Drain, core.Does), event(7, -1, core.Begins)}, 1<<41), []Gap{{0, 1 << 40, 1, 2, 1<<40 - 1}, {1<<40 + 1, 1 << 41, 0, 0, 1<<40 - 1}})
	is(t, "Worst", told(Worst([]Gap{{Zero: 1}, {From: 1, Zero: 4}, {From: 2, Zero: 4}}), Worst(nil), Worst([]Gap{{From: 3}})), told(Gap{From: 1, Zero: 4}, Gap{}, Gap{From: 3}))
}

func TestP4002FitsRun(t *testing.T) {
	c := some()
	is(t, "Fits", told(Fits(c, Gap{Zero: 320}), Fits(c, Gap{Zero: 321}), Fits(c, Gap{Zero: 640, Handled: 1}), Fits(c, Gap{Zero: 641, Handled: 1}), Fits(c, Gap{Zero: math.MinInt}), Fits(c, Gap{Zero: math.MaxInt, Handled: math.MaxInt}), Fits(api.Config{}, Gap{Zero: 80})),
		told(true, false, true, false, true, false, true))
	first := func(l ...Gap) string { return fmt.Sprint(fit(c, l)) }
	is(t, "first that does not fit", told(first(Gap{Zero: 320}, Gap{Zero: 321}, Gap{Zero: 999}), first(Gap{Zero: 320}), first()), told("1 false", "0 true", "0 true"))
	run := func(c api.Config, choices []int) string { return fmt.Sprint(Run(c, choices)) }
	is(t, "Run", told(run(c, make([]int, 100)), run(c, nil), run(api.Config{}, make([]int, 9))), told("0 true", "0 true", "0 true"))
}

func TestP4003Left(t *testing.T) {
	c := some()
	// Level 1: 1 + 7 (Send) + 6 (Post) + 1 (refused); level 2: 1 + 4 (Tick); level 3: 1; there are 4 calls.
	is(t, "Left", told(Left(c, 0), Left(c, 5), Left(c, -1), Left(c, math.MinInt)), told(2*(15+5+1)+80*4*9, 2*21+80*4*14, 2*21+80*4*9, 2*21+80*4*9))
	is(t, "clamped", told(Left(c, 1<<31), Left(c, math.MaxInt)), told(2*21+80*4*(1+1<<31), 2*21+80*4*(1+1<<31)))
	is(t, "others", told(Left(api.Config{}, 0), Left(api.Config{Tasks: make([]api.Task, 1)}, 0)), told(0, 160))
}

func TestP4004Reach(t *testing.T) {
	after := func(c api.Config, choices ...int) string { return fmt.Sprint(Reach(c, choices)) }
	c := some()
	// Level 2 takes 5 steps, level 0 behind it 7: Ask, Tick, a tick, three lines, the choice.
	is(t, "Reach", told(after(c), after(c, 3), after(c, 2), after(c, 2, 0), after(c, 3, 0)), told("0 true", "1 true", "12 true", "11 true", "0 true"))
	is(t, "not valid", after(api.Config{}, 0), "0 false")
	within := func(most int) string {
		x, _ := core.Run(c, []int{2})
		return fmt.Sprint(reach(x, most))
	}
	is(t, "limited", told(within(12), within(11), within(0)), told("12 true", "0 false", "0 false"))
}

func TestP4005Theorems(t *testing.T) {
	for seed := range uint32(250) {
		c := sample.Config(seed)
		for _, n := range []int{10, 57, 800} {
			choices := sample.Choices(seed, len(c.Levels), n)
			i, fits := Run(c, choices)
			_, reached := Reach(c, choices)
			is(t, fmt.Sprint("seed ", seed), told(i, fits, reached), told(0, true, true))
		}
	}
}
