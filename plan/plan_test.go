package plan

import (
	"fmt"
	"math"
	"testing"

	"bellrope/api"
	"bellrope/post"
	"bellrope/site"
)

// is compares what is told of two values.
func is(t *testing.T, what string, got, want any) {
	t.Helper()
	if fmt.Sprint(got) != fmt.Sprint(want) {
		t.Errorf("%s: %v, not %v", what, got, want)
	}
}

// told returns several results as one text.
func told(l ...any) string { return fmt.Sprintln(l...) }

// some: a configuration with something of everything.
func some() api.Config {
	return api.Config{Tasks: make([]api.Task, 2), Levels: []api.Level{{Room: 1}, {Room: 4}}, Objects: []api.Object{{Kind: api.Flags, Init: api.Value{9}}, {Kind: api.Lock, Width: 2, Init: api.Value{7, 8, 6}}}}
}

func TestP3001Of(t *testing.T) {
	p, ok := Of(api.Config{Tasks: make([]api.Task, 1), Levels: []api.Level{{Room: 1}}})
	is(t, "example", told(p, ok), told(Plan{nil, []post.Line{{Q: site.Place{Kind: api.Ring, Cap: 1, Width: 1}, Over: 3}}, 4, []int{5}, 6}, true))
	p, ok = Of(some())
	is(t, "some", told(p, ok), told(Plan{[]site.Place{{Kind: api.Flags}, {Kind: api.Lock, At: 1, Width: 2}}, []post.Line{{Q: site.Place{Kind: api.Ring, At: 4, Cap: 1, Width: 1}, Over: 7}, {Q: site.Place{Kind: api.Ring, At: 8, Cap: 4, Width: 1}, Over: 14}}, 15, []int{16, 17}, 18}, true))
	p, ok = Of(api.Config{Tasks: make([]api.Task, 1)})
	is(t, "least", told(p, ok), told(Plan{nil, nil, 0, []int{1}, 2}, true))
	wrong := some()
	wrong.Ticker = 3
	for _, c := range []api.Config{{}, wrong} {
		p, ok = Of(c)
		is(t, "not valid", told(p, ok), told(Plan{}, false))
	}
}

func TestP3002Memory(t *testing.T) {
	is(t, "Memory", Memory(some()).All(), []int{9, 0, 7, 8, 0, 0, 0, 0, 0, 0, 0, 0, 0, 0, 0, 0, 0, 0})
	loads, stores := Memory(some()).Count()
	is(t, "new", told(loads, stores, Memory(api.Config{}) == nil), told(0, 0, true))
}

func TestP3003Whose(t *testing.T) {
	p, _ := Of(some())
	want := "[1 0][1 1][1 1][1 1][2 0][2 0][2 0][3 0][2 1][2 1][2 1][2 1][2 1][2 1][3 1][4 0][5 0][5 1]"
	got := ""
	for at := range p.Cells {
		part, index := Whose(p, at)
		got += fmt.Sprint([]int{part, index})
	}
	is(t, "Whose", got, want)
	for _, at := range []int{-1, p.Cells, math.MinInt, math.MaxInt} {
		part, index := Whose(p, at)
		zero, none := Whose(Plan{}, max(at, 0))
		is(t, "no cell", told(part, index, zero, none), told(0, 0, 0, 0))
	}
	part, index := Whose(Plan{}, 0)
	is(t, "zero plan", told(part, index, Objects, Lines, Over, Time, Asks), told(0, 0, 1, 2, 3, 4, 5))
}

func TestP3004Laws(t *testing.T) {
	c := some()
	c.Objects = append(c.Objects, api.Object{Kind: api.Four, Width: 3}, api.Object{Kind: api.Ring, Cap: 8, Width: 4})
	p, _ := Of(c)
	owners := make([]int, p.Cells)
	own := func(from, n int) {
		for at := range n {
			owners[from+at]++
		}
	}
	for i, o := range p.Places {
		own(o.At, site.Size(c.Objects[i]))
	}
	for i, l := range p.Lines {
		own(l.Q.At, 2+c.Levels[i].Room)
		own(l.Over, 1)
	}
	own(p.Tick, 1)
	for _, at := range p.Ask {
		own(at, 1)
	}
	for at, n := range owners {
		part, _ := Whose(p, at)
		is(t, "one part", told(n, part > 0), told(1, true))
	}
	is(t, "Cells", Memory(c).Len(), p.Cells)
}
