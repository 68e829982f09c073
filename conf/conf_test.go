package conf

import (
	"fmt"
	"math"
	"testing"

	"bellrope/api"
)

// is compares what is told of two values.
func is(t *testing.T, what string, got, want any) {
	t.Helper()
	if fmt.Sprint(got) != fmt.Sprint(want) {
		t.Errorf("%s: %v, not %v", what, got, want)
	}
}

// told returns several results as one text.
func told(l ...any) string { return fmt.Sprintln(l...) }

// valid returns a configuration with something of everything.
func valid() api.Config {
	return api.Config{Tasks: []api.Task{{Prio: 0}, {Prio: 31, Code: make([]api.Call, 64)}}, Levels: []api.Level{{Room: 1}, {Room: 64, Code: make([]api.Call, 64)}}, Ticker: 2,
		Objects: []api.Object{{Kind: api.Ring, Cap: 64, Width: 4, From: -2, To: 1}, {Kind: api.Four, Width: 1, From: 0, To: -1}, {Kind: api.Lock, Width: 2, Retry: 8, From: 1}, {Kind: api.Flags}}}
}

// bad tells the error of a configuration.
func bad(c api.Config) string {
	b := Check(c)
	return fmt.Sprint(int(b.F), b.Part, b.At)
}

func TestP2901Check(t *testing.T) {
	is(t, "valid", told(bad(valid()), bad(api.Config{Tasks: make([]api.Task, 1)})), told("0 0 0", "0 0 0"))
	most := api.Config{Tasks: make([]api.Task, 16), Levels: make([]api.Level, 31), Objects: make([]api.Object, 16), Ticker: 31}
	for i := range most.Levels {
		most.Levels[i].Room = 1
	}
	for i := range most.Objects {
		most.Objects[i].Kind = api.Flags
	}
	is(t, "most", bad(most), "0 0 0")
	for i, c := range []struct {
		change func(c *api.Config)
		want   string
	}{
		{func(c *api.Config) { c.Tasks = nil }, "2 1 0"}, {func(c *api.Config) { c.Tasks = make([]api.Task, 17) }, "2 1 0"}, {func(c *api.Config) { c.Levels = make([]api.Level, 32) }, "2 1 1"},
		{func(c *api.Config) { c.Objects = make([]api.Object, 17) }, "2 1 2"}, {func(c *api.Config) { c.Ticker = -1 }, "2 1 3"}, {func(c *api.Config) { c.Ticker = 3 }, "2 1 3"}, {func(c *api.Config) { c.Ticker = math.MaxInt }, "2 1 3"},
		{func(c *api.Config) { c.Tasks[1].Prio = 32 }, "2 2 1"}, {func(c *api.Config) { c.Tasks[0].Prio = -1 }, "2 2 0"}, {func(c *api.Config) { c.Tasks[1].Code = make([]api.Call, 65) }, "14 2 1"},
		{func(c *api.Config) { c.Tasks[1].Code = make([]api.Call, 65); c.Tasks[1].Prio = 99 }, "2 2 1"}, {func(c *api.Config) { c.Tasks[0].Code = make([]api.Call, 65); c.Tasks[1].Prio = 99 }, "14 2 0"},
		{func(c *api.Config) { c.Levels[0].Room = 0 }, "13 3 0"}, {func(c *api.Config) { c.Levels[1].Room = 3 }, "13 3 1"}, {func(c *api.Config) { c.Levels[1].Room = 128 }, "13 3 1"}, {func(c *api.Config) { c.Levels[1].Room = math.MinInt }, "13 3 1"},
		{func(c *api.Config) { c.Levels[1].Code = make([]api.Call, 65) }, "14 3 1"}, {func(c *api.Config) { c.Levels[1].Code = make([]api.Call, 65); c.Levels[1].Room = 5 }, "13 3 1"},
		{func(c *api.Config) { c.Objects[3].Kind = 0 }, "12 4 3"}, {func(c *api.Config) { c.Objects[3].Kind = 5 }, "12 4 3"}, {func(c *api.Config) { c.Objects[0].Kind = -1; c.Objects[0].Cap = 3 }, "12 4 0"},
		{func(c *api.Config) { c.Objects[0].Cap = 3; c.Objects[0].Width = 9 }, "13 4 0"}, {func(c *api.Config) { c.Objects[0].Cap = 128 }, "13 4 0"}, {func(c *api.Config) { c.Objects[1].Cap = 3 }, "2 4 1"},
		{func(c *api.Config) { c.Objects[0].Width = 5; c.Objects[0].From = 99 }, "2 4 0"}, {func(c *api.Config) { c.Objects[2].Retry = 9 }, "2 4 2"}, {func(c *api.Config) { c.Objects[3].Width = 1 }, "2 4 3"},
		{func(c *api.Config) { c.Objects[0].From = 2 }, "10 4 0"}, {func(c *api.Config) { c.Objects[0].To = -3 }, "10 4 0"}, {func(c *api.Config) { c.Objects[1].From = math.MinInt }, "10 4 1"}, {func(c *api.Config) { c.Objects[1].To = 2 }, "10 4 1"},
		{func(c *api.Config) { c.Objects[2].From = -3 }, "10 4 2"}, {func(c *api.Config) { c.Objects[2].To = 1 }, "10 4 2"}, {func(c *api.Config) { c.Objects[3].From = 1 }, "10 4 3"}, {func(c *api.Config) { c.Objects[3].To = -1 }, "10 4 3"},
	} {
		x := valid()
		c.change(&x)
		is(t, fmt.Sprint("wrong ", i), bad(x), c.want)
	}
}

func TestP2902HasSize(t *testing.T) {
	c := valid()
	for ctx, want := range map[int]bool{0: true, 1: true, 2: false, -1: true, -2: true, -3: false, api.Drain: false, api.Idle: false, math.MinInt: false, math.MaxInt: false} {
		is(t, fmt.Sprint("Has ", ctx), Has(c, ctx), want)
	}
	is(t, "Size", told(Size(c), Size(api.Config{})), told(4, 0))
}

func TestP2903Laws(t *testing.T) {
	wrong := []func(c *api.Config){
		func(c *api.Config) { c.Ticker = 9 }, func(c *api.Config) { c.Tasks[0].Prio = 99 }, func(c *api.Config) { c.Tasks[1].Prio = 99 }, func(c *api.Config) { c.Levels[0].Room = 0 },
		func(c *api.Config) { c.Levels[1].Room = 0 }, func(c *api.Config) { c.Objects[0].Kind = 9 }, func(c *api.Config) { c.Objects[3].To = 9 },
	}
	for i := range wrong {
		one, all := valid(), valid()
		wrong[i](&one)
		for _, change := range wrong[i:] {
			change(&all)
		}
		is(t, "regardless of what follows", bad(all), bad(one))
	}
	for n := range len(valid().Objects) + 1 {
		c := valid()
		c.Objects = c.Objects[:n]
		is(t, "fewer objects", bad(c), "0 0 0")
	}
}
