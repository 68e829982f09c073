package delta

import (
	"fmt"
	"math"
	"slices"
	"testing"

	"bellrope/api"
)

// is compares what is told of two values.
func is(t *testing.T, what string, got, want any) {
	t.Helper()
	if fmt.Sprint(got) != fmt.Sprint(want) {
		t.Errorf("%s: %v, not %v", what, got, want)
	}
}

// told returns several results as one text.
func told(l ...any) string { return fmt.Sprintln(l...) }

func TestP2401AddRemoveLeft(t *testing.T) {
	var d Delta
	left := func(task int) string { return fmt.Sprint(d.Left(task)) }
	remove := func(task int) string { return fmt.Sprint(d.Remove(task)) }
	is(t, "Add", told(d.Add(1, 5), d.Add(2, 3), d.Add(1, 9), d.Add(3, 0), d.Add(0, 5), d.Add(15, api.Forever), d.Add(4, 4)), told(true, true, false, false, true, true, true))
	is(t, "Left", told(left(1), left(2), left(0), left(15), left(4), left(3), left(-1)), told("5 true", "3 true", "5 true", "4294967295 true", "4 true", "0 false", "0 false"))
	is(t, "Remove", told(remove(2), remove(2), left(4), left(1), left(15)), told("3 true", "0 false", "4 true", "5 true", "4294967295 true"))
	is(t, "Remove", told(remove(1), left(0), remove(15), left(15), d.List()), told("5 true", "5 true", "4294967295 true", "0 false", []int{4, 0}))
	for _, task := range []int{-1, 16, math.MinInt, math.MaxInt} {
		is(t, "no task", told(d.Add(task, 1), remove(task), left(task)), told(false, "0 false", "0 false"))
	}
	var none *Delta
	n, ok := none.Remove(1)
	m, is2 := none.Left(1)
	is(t, "nil", told(none.Add(1, 1), n, ok, m, is2), told(false, 0, false, 0, false))
}

func TestP2402Tick(t *testing.T) {
	var d Delta
	is(t, "none", d.Tick(), []int{})
	d.Add(1, 2)
	d.Add(2, 1)
	d.Add(3, 2)
	is(t, "Tick", told(d.Tick(), d.List(), d.Tick(), d.Tick()), told([]int{2}, []int{1, 3}, []int{1, 3}, []int{}))
	d.Add(5, 3)
	d.Tick()
	d.Add(4, 2)
	is(t, "added later, same time", told(d.Tick(), d.Tick()), told([]int{}, []int{5, 4}))
	var nobody *Delta
	is(t, "nil", nobody.Tick(), []int{})
}

func TestP2403ListLenCopy(t *testing.T) {
	var d Delta
	is(t, "none", told(d.List(), d.Len()), told([]int{}, 0))
	for task, ticks := range []uint32{7, 2, 7, 1, 2} {
		d.Add(task, ticks)
	}
	is(t, "List", told(d.List(), d.Len()), told([]int{3, 1, 4, 0, 2}, 5))
	c := d.Copy()
	c.Tick()
	d.Remove(0)
	c.Add(9, 1)
	is(t, "Copy", told(d.List(), c.List()), told([]int{3, 1, 4, 2}, []int{1, 4, 9, 0, 2}))
	left, _ := c.Left(2)
	is(t, "Left of the copy", left, 6)
	var none *Delta
	is(t, "nil", told(none.List(), none.Len(), none.Copy() == nil), told([]int{}, 0, true))
}

func TestP2404Laws(t *testing.T) {
	var d Delta
	due := map[int]int{} // the tick at which each task is to be returned
	x := uint32(5)
	now := 0
	for range 4000 {
		x = x*1664525 + 1013904223
		task := int(x >> 8 % 16)
		switch x >> 24 % 4 {
		case 0, 1:
			if ticks := x >> 16 % 9; d.Add(task, ticks) {
				due[task] = now + int(ticks)
			}
		case 2:
			if _, ok := d.Remove(task); ok {
				delete(due, task)
			}
		case 3:
			now++
			got := d.Tick()
			for task, at := range due {
				is(t, "returned in time", slices.Contains(got, task), at == now)
				if at == now {
					delete(due, task)
				}
			}
		}
		is(t, "Len", d.Len(), len(due))
		for task, at := range due {
			left, ok := d.Left(task)
			is(t, "Left", told(left, ok), told(at-now, true))
		}
	}
}
