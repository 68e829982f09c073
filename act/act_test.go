package act

import (
	"fmt"
	"math"
	"testing"

	"bellrope/api"
	"bellrope/cell"
	"bellrope/gate"
)

// is compares what is told of two values.
func is(t *testing.T, what string, got, want any) {
	t.Helper()
	if fmt.Sprint(got) != fmt.Sprint(want) {
		t.Errorf("%s: %v, not %v", what, got, want)
	}
}

// told returns several results as one text.
func told(l ...any) string { return fmt.Sprintln(l...) }

// wrong: acts that are not valid.
func wrong() []api.Act {
	return []api.Act{{Op: -1}, {Op: 7}, {Op: math.MinInt}, {Op: math.MaxInt}, {Op: api.NoAct, At: 1}, {Op: api.NoAct, V: 1}, {Op: api.Raise, At: 1}, {Op: api.Raise, V: 1}, {Op: api.Raise, At: -1},
		{Op: api.Load, V: 1}, {Op: api.Load, At: -1}, {Op: api.Load, At: api.MaxCells}, {Op: api.Store, At: -1}, {Op: api.Swap, At: api.MaxCells}, {Op: api.Or, At: math.MaxInt}, {Op: api.And, At: math.MinInt}}
}

func TestP1001DoRight(t *testing.T) {
	m, g := cell.New(2), gate.New(1)
	for _, c := range []struct {
		a    api.Act
		want string
	}{
		{api.Act{}, "0 true [0 0] 0"}, {api.Act{Op: api.Store, At: 1, V: 6}, "0 true [0 6] 0"}, {api.Act{Op: api.Load, At: 1}, "6 true [0 6] 0"},
		{api.Act{Op: api.Swap, At: 1, V: 5}, "6 true [0 5] 0"}, {api.Act{Op: api.Or, At: 1, V: 10}, "5 true [0 15] 0"}, {api.Act{Op: api.And, At: 1, V: 9}, "15 true [0 9] 0"},
		{api.Act{Op: api.Load, At: 2}, "0 false [0 9] 0"}, {api.Act{Op: api.Store, At: 2, V: 1}, "0 false [0 9] 0"}, {api.Act{Op: api.Swap, At: 2}, "0 false [0 9] 0"},
		{api.Act{Op: api.Raise}, "0 true [0 9] 1"}, {api.Act{Op: api.Raise}, "0 true [0 9] 1"},
	} {
		got, ok := Do(m, g, c.a)
		is(t, fmt.Sprint("Do ", c.a), fmt.Sprint(got, ok, m.All(), g.Pending()), c.want)
		is(t, "Right", Right(c.a), true)
	}
	is(t, "Right", told(Right(api.Act{Op: api.Store, At: api.MaxCells - 1, V: 1<<32 - 1}), Right(api.Act{Op: api.Load, At: api.MaxCells - 1})), told(true, true))
	for _, a := range wrong() {
		got, ok := Do(m, g, a)
		is(t, fmt.Sprint("wrong ", a), told(Right(a), got, ok, m.All()), told(false, 0, false, []int{0, 9}))
	}
	_, ok := Do(nil, nil, api.Act{})
	_, raises := Do(m, nil, api.Act{Op: api.Raise})
	_, loads := Do(nil, g, api.Act{Op: api.Load})
	is(t, "without", told(ok, raises, loads), told(true, false, false))
}

func TestP1002SharedWritesClash(t *testing.T) {
	for op, want := range []string{"false false", "true false", "true true", "true true", "true true", "true true", "false false"} {
		a := api.Act{Op: op}
		is(t, Text(a), fmt.Sprint(Shared(a), Writes(a)), want)
		for other := range 7 {
			b := api.Act{Op: other}
			both := Shared(a) && Shared(b)
			is(t, "Clash "+Text(a)+Text(b), Clash(a, b), both && (op > api.Load || other > api.Load))
			b.At = 1
			is(t, "other cell", Clash(a, b), false)
		}
	}
	for _, a := range wrong() {
		is(t, "wrong", told(Shared(a), Writes(a), Clash(a, a), Clash(a, api.Act{Op: api.Store, At: max(a.At, 0)})), told(false, false, false, false))
	}
}

func TestP1003TextRead(t *testing.T) {
	for _, c := range []struct {
		a    api.Act
		text string
	}{
		{api.Act{}, "none"}, {api.Act{Op: api.Raise}, "raise"}, {api.Act{Op: api.Load, At: 65535}, "load 65535"}, {api.Act{Op: api.Store, At: 3, V: 7}, "store 3 7"},
		{api.Act{Op: api.Swap, At: 0, V: 1<<32 - 1}, "swap 0 4294967295"}, {api.Act{Op: api.Or, At: 1, V: 0}, "or 1 0"}, {api.Act{Op: api.And, At: 12, V: 3}, "and 12 3"},
	} {
		is(t, "Text", Text(c.a), c.text)
		a, f := Read(c.text)
		is(t, "Read "+c.text, told(a, f), told(c.a, api.OK))
	}
	for _, a := range wrong() {
		is(t, "Text of a wrong one", Text(a), "")
	}
	for _, s := range []string{"", " ", "nothing", "none 0", "none ", " none", "raise 0", "load", "load 1 0", "load 65536", "load -1", "load 01", "load  1", "load 1\n", "load\t1", "load 1 #",
		"store 1", "store 1 4294967296", "store 1 -1", "store 1 1 1", "store x 1", "none\nnone", "Load 1", "and 1 2 # c", "\nnone"} {
		a, f := Read(s)
		is(t, "Read "+s, told(a, f), told(api.Act{}, api.Syntax))
	}
}

func TestP1004Laws(t *testing.T) {
	var l []api.Act
	for op := range 7 {
		for at := range 2 {
			for _, v := range []uint32{1, 6} {
				if a := (api.Act{Op: op, At: at, V: v}); Right(a) {
					l = append(l, a)
				} else if a.V = 0; Right(a) {
					l = append(l, a)
				}
			}
		}
	}
	for _, a := range l {
		for _, b := range l {
			m, o := cell.Of([]uint32{5, 3}), cell.Of([]uint32{5, 3})
			g := gate.New(0)
			x, _ := Do(m, g, a)
			y, _ := Do(m, g, b)
			w, _ := Do(o, g, b)
			v, _ := Do(o, g, a)
			if !Clash(a, b) {
				is(t, "order", told(x, y, m.All()), told(v, w, o.All()))
			}
		}
	}
}
