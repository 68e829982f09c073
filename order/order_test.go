package order

import (
	"fmt"
	"testing"

	"bellrope/api"
	"bellrope/core"
	"bellrope/drain"
	"bellrope/sample"
)

// is compares what is told of two values.
func is(t *testing.T, what string, got, want any) {
	t.Helper()
	if fmt.Sprint(got) != fmt.Sprint(want) {
		t.Errorf("%s: %v, not %v", what, got, want)
	}
}

// told returns several results as one text.
func told(l ...any) string { return fmt.Sprintln(l...) }

// some: a task that posts to another one, and a handler that posts twice, with room for one.
func some() api.Config {
	return api.Config{Tasks: []api.Task{{Prio: 2, Code: []api.Call{note(1, 9), note(7, 9)}}, {Prio: 1}}, Levels: []api.Level{{Room: 1, Code: []api.Call{note(0, 3), note(1, 4), note(1, 1<<16)}}, {Room: 1}}}
}

// note returns a call that posts.
func note(task int, bits uint32) api.Call {
	return api.Call{Kind: api.Post, Obj: task, V: api.Value{bits}}
}

// events returns the events of a run.
func events(choices ...int) []core.Event {
	x, _ := core.Run(some(), choices)
	return x.Events()
}

// begins, ends, applies and serves return events of a context, or of level 0.
func begins(step, ctx int) core.Event {
	return core.Event{Step: step, Ctx: ctx, Kind: core.Begins, Call: note(1, 5)}
}

func ends(step, ctx int, f api.Fault) core.Event {
	return core.Event{Step: step, Ctx: ctx, Kind: core.Ends, R: api.Result{F: f}}
}

func applies(step, level int) core.Event {
	return core.Event{Step: step, Ctx: api.Drain, Kind: core.Zero, E: drain.Event{Kind: drain.Applies, Who: level, What: 1}}
}

func serves(step, task, what int) core.Event {
	return core.Event{Step: step, Ctx: api.Drain, Kind: core.Zero, E: drain.Event{Kind: drain.Serves, Who: task, What: what}}
}

// check tells what Check answers.
func check(l ...core.Event) string {
	at, f := Check(some(), l)
	return fmt.Sprint(at, int(f))
}

func TestP4201OfLevel(t *testing.T) {
	choices := make([]int, 60)
	choices[0] = 1
	l := events(choices...)
	posts := Of(some(), l)
	is(t, "Of", posts, []Post{{1, 0, 3, 0, 5, 17, api.OK}, {1, 1, 65540, 6, 10, -1, api.Full}, {0, 1, 65545, 20, 29, 24, api.OK}})
	is(t, "Level", told(Level(posts, 1), Level(posts, 0), Level(posts, 2)), told(posts[:2], posts[2:], []Post{}))
	is(t, "not valid", Of(api.Config{}, l), []Post{})
	is(t, "early", told(Of(some(), events(choices[:16]...)), Of(some(), events(choices[:22]...))), told([]Post{{1, 0, 3, 0, 5, -1, api.OK}, posts[1]}, posts[:2]))
	is(t, "n-th", Of(some(), []core.Event{begins(0, -1), ends(1, -1, 0), applies(2, 1), begins(3, -2), ends(4, -2, api.Full), begins(5, -2), ends(6, -2, 0), applies(7, 2), begins(8, -1), ends(9, -1, 0), applies(10, 2), applies(11, 1)}),
		[]Post{{1, 1, 65541, 0, 1, 2, 0}, {2, 1, 65541, 3, 4, -1, 6}, {2, 1, 65541, 5, 6, 7, 0}, {1, 1, 65541, 8, 9, 11, 0}})
	is(t, "served behind its Begin", Of(some(), []core.Event{serves(0, 0, api.Post), begins(1, 0), serves(2, 1, api.Post), serves(3, 0, api.Yield), serves(4, 0, api.Post), serves(5, 0, api.Post), ends(6, 0, 0)}), []Post{{0, 1, 65541, 1, 6, 4, 0}})
	is(t, "parts", Of(some(), []core.Event{ends(0, -1, 0), begins(1, 0), {Step: 2, Kind: core.Begins, Call: api.Call{Kind: api.Yield}}, ends(3, 0, 0)}), []Post{})
}

func TestP4202WaitsFulls(t *testing.T) {
	l := []Post{{Level: 1, Done: -1}, {Level: 1, Done: 5}, {Level: 1, Done: 9}, {Level: 1, Done: -1, F: api.Full}, {Level: 2, Done: -1}, {Level: 2, Done: -1, F: api.Full}, {Level: 1, Done: -1, F: api.Full}}
	is(t, "Waits", told(Waits(l), Waits(nil)), told(2, 0))
	is(t, "Fulls", told(Fulls(l, 1), Fulls(l, 2), Fulls(l, 0), Fulls(nil, 1)), told(2, 1, 0, 0))
}

func TestP4203Check(t *testing.T) {
	task := core.Event{Step: 20, Ctx: 1, Kind: core.Does}
	for _, c := range []struct {
		what string
		l    []core.Event
		want string
	}{
		{"applied", []core.Event{begins(1, -1), ends(5, -1, 0), applies(9, 1), task}, "0 0"},
		{"still waiting", []core.Event{begins(1, -1), ends(5, -1, 0)}, "0 0"},
		{"not applied", []core.Event{begins(0, -2), ends(1, -2, api.Full), begins(1, -1), ends(5, -1, 0), task}, "1 15"},
		{"applied too late", []core.Event{begins(1, -1), ends(5, -1, 0), task, applies(25, 1)}, "0 2"},
		{"applied too early", []core.Event{applies(0, 1), begins(1, -1), ends(5, -1, 0)}, "0 2"},
		{"by a task", []core.Event{begins(1, 0), serves(3, 0, api.Post), ends(5, 0, 0)}, "0 0"},
		{"by a task, applied late", []core.Event{begins(1, 0), ends(5, 0, 0), serves(7, 0, api.Post)}, "0 2"},
		{"by a task, not applied", []core.Event{begins(1, 0), ends(5, 0, 0)}, "0 2"},
		{"by a task, not applied, and a step follows", []core.Event{begins(1, 0), ends(5, 0, 0), task}, "0 15"},
		{"of no post", []core.Event{begins(1, -1), ends(5, -1, 0), applies(9, 1), applies(11, 1), task}, "1 4"},
		{"of no post of this level", []core.Event{begins(1, -1), ends(5, -1, 0), applies(8, 2), applies(9, 1)}, "1 4"},
		{"full", []core.Event{begins(1, -1), ends(5, -1, api.Full), applies(9, 1)}, "1 4"},
		{"without a result", []core.Event{begins(1, -1), applies(9, 1)}, "0 0"},
		{"without a result, another level", []core.Event{begins(1, -1), applies(9, 2)}, "0 4"},
		{"without a result, two", []core.Event{begins(1, -1), applies(9, 1), applies(10, 1)}, "0 4"},
		{"not applied, and a step of task 0 follows", []core.Event{begins(1, -1), ends(5, -1, 0), {Step: 20, Kind: core.Does}}, "0 15"},
		{"nothing", nil, "0 0"},
	} {
		is(t, c.what, check(c.l...), c.want)
	}
	at, f := Check(api.Config{}, []core.Event{begins(1, -1), ends(5, -1, 0), applies(9, 1)})
	is(t, "not valid", told(at, int(f)), told(0, 4))
	is(t, "applied though full", wrong(Post{Level: 1, Done: 4, F: api.Full}, nil), api.Full)
}

func TestP4204Theorem(t *testing.T) {
	applied, full := 0, 0
	for seed := range uint32(400) {
		c := sample.Config(seed)
		x, _ := core.Run(c, sample.Choices(seed, len(c.Levels), 600))
		at, f := Check(c, x.Events())
		is(t, fmt.Sprint("seed ", seed), told(at, f), told(0, 0))
		for _, p := range Of(c, x.Events()) {
			if p.Done >= 0 {
				applied++
			}
			if p.F == api.Full {
				full++
			}
		}
	}
	is(t, "there are posts", told(applied > 100, full > 20), told(true, true))
}
