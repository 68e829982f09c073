package refine

import (
	"fmt"
	"slices"
	"testing"

	"bellrope/api"
	"bellrope/core"
	"bellrope/model"
	"bellrope/sample"
	"bellrope/sched"
)

// is compares what is told of two values.
func is(t *testing.T, what string, got, want any) {
	t.Helper()
	if fmt.Sprint(got) != fmt.Sprint(want) {
		t.Errorf("%s: %v, not %v", what, got, want)
	}
}

// told returns several results as one text.
func told(l ...any) string { return fmt.Sprintln(l...) }

// one: one task without code.
func one() api.Config { return api.Config{Tasks: make([]api.Task, 1)} }

// busy: a task that waits for flags, a handler that posts twice, and one that ticks.
func busy() api.Config {
	return api.Config{Tasks: []api.Task{{Code: []api.Call{{Kind: api.WaitAny, V: api.Value{2}, N: 1}, {Kind: api.Send, Obj: 1, V: api.Value{4}}}}}, Ticker: 2, Objects: []api.Object{{Kind: api.Flags}, {Kind: api.Ring, Cap: 1, Width: 1, From: 0, To: 0}},
		Levels: []api.Level{{Room: 1, Code: []api.Call{{Kind: api.Post, Obj: 0, V: api.Value{3}}, {Kind: api.Post, Obj: 7}, {Kind: api.Post, Obj: 0, V: api.Value{5}}}}, {Room: 1, Code: []api.Call{{Kind: api.Tick}}}}}
}

// kinds tells the moves: when, what, by whom.
func kinds(l []Timed) string {
	text := ""
	for _, m := range l {
		text += fmt.Sprint(m.At, " ", m.M.Kind, " ", m.M.Who, "; ")
	}
	return text
}

func TestP3801Moves(t *testing.T) {
	exit := sched.Request{Kind: api.Exit}
	l := Moves(one(), make([]int, 9))
	is(t, "example", l, []Timed{{At: 0}, {At: 2}, {At: 3, M: model.Move{Kind: model.AskIn, Ask: exit}}, {At: 4, But: true}, {At: 9, M: model.Move{Kind: model.Serve}}, {At: 13, M: model.Move{Kind: model.Choose}, Out: model.Out{L: []int{-1}}}})
	is(t, "not valid", Moves(api.Config{}, make([]int, 9)), []Timed{})
	is(t, "no choices", len(Moves(one(), nil)), 0)
	// The task fails to get its flag and waits; then come two posts of which the second one is too many, and a tick.
	choices := make([]int, 70)
	choices[13], choices[14] = 1, 2
	l = Moves(busy(), choices)
	is(t, "kinds", kinds(l), "0 0 0; 2 0 0; 3 1 0; 4 0 0; 5 4 0; 6 0 0; 11 5 0; 21 9 0; 31 3 0; 45 2 1; 55 2 1; 65 6 0; 71 7 1; 75 9 0; 76 0 0; 78 0 0; 80 0 0; 82 0 0; 84 0 0; 86 0 0; 87 1 0; 88 0 0; 99 9 0; 100 0 0; 102 0 0; 103 4 0; 104 0 0; 109 5 0; 117 9 0; ")
	find := func(kind int) []Timed {
		return slices.DeleteFunc(slices.Clone(l), func(m Timed) bool { return m.M.Kind != kind })
	}
	is(t, "points", find(model.Point), []Timed{{At: 3, M: model.Move{Kind: model.Point, Call: api.Call{Kind: api.WaitAny, V: api.Value{2}}, R: api.Result{F: api.Empty}}}, {At: 87, M: model.Move{Kind: model.Point, Call: api.Call{Kind: api.Send, Obj: 1, V: api.Value{4}}}}})
	is(t, "posts", find(model.PostIn), []Timed{{At: 45, M: model.Move{Kind: model.PostIn, Who: 1, V: 3}}, {At: 55, M: model.Move{Kind: model.PostIn, Who: 1, V: 5}, Out: model.Out{R: api.Result{F: api.Full}}}})
	is(t, "level 0", told(find(model.TickOut), find(model.Apply), find(model.Choose)[0].Out), told([]Timed{{At: 65, M: model.Move{Kind: model.TickOut}, Out: model.Out{L: []int{0}}}}, []Timed{{At: 71, M: model.Move{Kind: model.Apply, Who: 1}, Out: model.Out{V: 3}}}, model.Out{L: []int{-1}}))
	is(t, "requests", find(model.AskIn)[0].M, model.Move{Kind: model.AskIn, Ask: sched.Request{Kind: api.WaitAny, Mask: 2, Delay: 1}})
}

func TestP3802Play(t *testing.T) {
	l := Moves(one(), make([]int, 9))
	play := func(change func(l []Timed)) string {
		c := slices.Clone(l)
		change(c)
		at, f := Play(one(), c)
		return fmt.Sprint(at, int(f))
	}
	is(t, "Play", play(func([]Timed) {}), "0 0")
	is(t, "fault of Do", told(play(func(l []Timed) { l[2].M.Who = 5 }), play(func(l []Timed) { l[4].M.Who = 5 }), play(func(l []Timed) { l[5].M.Kind = 99 })), told("2 4", "4 15", "5 12"))
	is(t, "result", told(play(func(l []Timed) { l[5].Out.L = nil }), play(func(l []Timed) { l[5].Out.L = []int{0} }), play(func(l []Timed) { l[4].Out.V = 1 }), play(func(l []Timed) { l[2].Out.R.F = 1 })), told("5 2", "5 2", "4 2", "2 2"))
	is(t, "look", told(play(func(l []Timed) { l[0].Task = 1 }), play(func(l []Timed) { l[3].But = false }), play(func(l []Timed) { l[1], l[4] = l[4], l[1] })), told("0 15", "3 15", "1 15"))
	at, f := Play(api.Config{}, l)
	none, g := Play(one(), nil)
	is(t, "others", told(at, int(f), none, int(g)), told(0, 1, 0, 0))
}

func TestP3803Check(t *testing.T) {
	at, f := Check(one(), make([]int, 9))
	wrong, g := Check(api.Config{}, nil)
	is(t, "Check", told(at, int(f), wrong, int(g)), told(0, 0, 0, 1))
}

func TestP3804Theorem(t *testing.T) {
	moves := 0
	for seed := range uint32(400) {
		c := sample.Config(seed)
		choices := sample.Choices(seed, len(c.Levels), 800)
		l := Moves(c, choices)
		at, f := Play(c, l)
		if f != api.OK {
			t.Fatal(seed, at, f, l[at])
		}
		moves += len(l)
		// Every step of a task is looked at.
		x, _ := core.Run(c, choices)
		steps := map[int]int{}
		for _, e := range x.Events() {
			if e.Ctx >= 0 {
				steps[e.Step] = 1
			}
		}
		looks := 0
		for _, m := range l {
			if m.M == (model.Move{}) {
				looks++
			}
		}
		is(t, "looks", looks, len(steps))
	}
	is(t, "there are moves", moves > 10000, true)
}
