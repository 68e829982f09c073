package rank

import (
	"fmt"
	"math"
	"slices"
	"testing"
)

// is compares what is told of two values.
func is(t *testing.T, what string, got, want any) {
	t.Helper()
	if fmt.Sprint(got) != fmt.Sprint(want) {
		t.Errorf("%s: %v, not %v", what, got, want)
	}
}

// told returns several results as one text.
func told(l ...any) string { return fmt.Sprintln(l...) }

func TestP2301AddRemoveTurn(t *testing.T) {
	var r Rank
	is(t, "Add", told(r.Add(1, 5), r.Add(2, 5), r.Add(3, 9), r.Add(1, 5), r.Add(1, 6), r.Add(0, 0), r.Add(15, 31)), told(true, true, true, false, false, true, true))
	is(t, "List", r.List(), []int{15, 3, 1, 2, 0})
	for _, n := range []int{-1, 16, math.MinInt, math.MaxInt} {
		is(t, "no task", told(r.Add(n, 1), r.Remove(n), r.Turn(n)), told(false, false, false))
	}
	for _, n := range []int{-1, 32, math.MinInt, math.MaxInt} {
		is(t, "no priority", told(r.Add(7, n), r.Len()), told(false, 5))
	}
	is(t, "Turn", told(r.Turn(1), r.Turn(3), r.Turn(9), r.List()), told(true, true, false, []int{15, 3, 2, 1, 0}))
	is(t, "Remove", told(r.Remove(3), r.Remove(3), r.Remove(2), r.List(), r.Add(2, 1), r.List()), told(true, false, true, []int{15, 1, 0}, true, []int{15, 1, 2, 0}))
	var none *Rank
	is(t, "nil", told(none.Add(1, 1), none.Remove(1), none.Turn(1)), told(false, false, false))
}

func TestP2302Reports(t *testing.T) {
	var r Rank
	first := func() string { return fmt.Sprint(r.First()) }
	prio := func(task int) string { return fmt.Sprint(r.Prio(task)) }
	is(t, "empty", told(first(), prio(0), r.List(), r.Bits(), r.Len()), told("0 false", "0 false", []int{}, 0, 0))
	r.Add(1, 5)
	r.Add(2, 5)
	r.Add(3, 9)
	is(t, "some", told(first(), prio(1), prio(3), prio(4), prio(-1), prio(99), r.List(), r.Bits(), r.Len()), told("3 true", "5 true", "9 true", "0 false", "0 false", "0 false", []int{3, 1, 2}, 1<<9+1<<5, 3))
	r.Remove(3)
	r.Turn(1)
	is(t, "example", told(first(), r.Bits(), prio(3)), told("2 true", 1<<5, "0 false"))
	for task := range 16 {
		r.Remove(task)
		r.Add(task, 0)
	}
	is(t, "one row", told(first(), r.Bits(), r.Len(), prio(0)), told("0 true", 1, 16, "0 true"))
	var none *Rank
	task, ok := none.First()
	p, is2 := none.Prio(1)
	is(t, "nil", told(task, ok, p, is2, none.List(), none.Bits(), none.Len()), told(0, false, 0, false, []int{}, 0, 0))
}

func TestP2303Copy(t *testing.T) {
	var r Rank
	r.Add(1, 5)
	c := r.Copy()
	c.Add(2, 5)
	r.Remove(1)
	is(t, "Copy", told(r.List(), c.List()), told([]int{}, []int{1, 2}))
	var none *Rank
	is(t, "nil", none.Copy() == nil, true)
}

func TestP2304Laws(t *testing.T) {
	var r Rank
	rows := make([][]int, 32)
	x := uint32(4)
	for range 4000 {
		x = x*1664525 + 1013904223
		task, prio := int(x>>8%16), int(x>>16%5)*7
		in := slices.IndexFunc(rows, func(l []int) bool { return slices.Contains(l, task) })
		switch x >> 24 % 3 {
		case 0:
			is(t, "Add", r.Add(task, prio), in < 0)
			if in < 0 {
				rows[prio] = append(rows[prio], task)
			}
		case 1:
			is(t, "Remove", r.Remove(task), in >= 0)
			if in >= 0 {
				rows[in] = slices.DeleteFunc(rows[in], func(n int) bool { return n == task })
			}
		case 2:
			is(t, "Turn", r.Turn(task), in >= 0)
			if in >= 0 {
				rows[in] = append(slices.DeleteFunc(rows[in], func(n int) bool { return n == task }), task)
			}
		}
		var want []int
		for p := 31; p >= 0; p-- {
			want = append(want, rows[p]...)
		}
		is(t, "List", told(r.List(), r.Len()), told(want, len(want)))
	}
}
