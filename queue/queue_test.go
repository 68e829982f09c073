package queue

import (
	"fmt"
	"math"
	"slices"
	"testing"
)

// is compares what is told of two values.
func is(t *testing.T, what string, got, want any) {
	t.Helper()
	if fmt.Sprint(got) != fmt.Sprint(want) {
		t.Errorf("%s: %v, not %v", what, got, want)
	}
}

// told returns several results as one text.
func told(l ...any) string { return fmt.Sprintln(l...) }

// wait returns the wait of a task.
func wait(task int) Wait { return Wait{task, task + 10, task % 2, uint32(task) * 3} }

// three: a queue of three waits.
func three() *Queue {
	q := &Queue{}
	for _, task := range []int{1, 2, 3} {
		q.Add(wait(task))
	}
	return q
}

func TestP2501AddRemoveFind(t *testing.T) {
	q := three()
	find := func(task int) string { return fmt.Sprint(q.Find(task)) }
	remove := func(task int) string { return fmt.Sprint(q.Remove(task)) }
	is(t, "Add", told(q.Add(wait(2)), q.Add(Wait{Task: 2, Obj: 9}), q.Add(wait(0)), q.Add(wait(15))), told(false, false, true, true))
	for _, task := range []int{-1, 16, math.MinInt, math.MaxInt} {
		is(t, "no task", told(q.Add(wait(task)), find(task), remove(task), q.Len()), told(false, "{0 0 0 0} false", "{0 0 0 0} false", 5))
	}
	is(t, "Find", told(find(3), find(4)), told("{3 13 1 9} true", "{0 0 0 0} false"))
	is(t, "Remove", told(remove(2), remove(2), find(2), q.List()), told("{2 12 0 6} true", "{0 0 0 0} false", "{0 0 0 0} false", []Wait{wait(1), wait(3), wait(0), wait(15)}))
	var empty Queue
	w, ok := empty.Remove(0)
	is(t, "empty", told(w, ok, empty.Len()), told(Wait{}, false, 0))
	var none *Queue
	w, ok = none.Remove(1)
	v, is2 := none.Find(1)
	is(t, "nil", told(none.Add(wait(1)), w, ok, v, is2), told(false, Wait{}, false, Wait{}, false))
}

func TestP2502Next(t *testing.T) {
	q := three()
	next := func(task int) string { return fmt.Sprint(q.Next(task)) }
	is(t, "Next", told(next(1), next(2), next(3), next(0), next(-1), next(99)), told("{2 12 0 6} true", "{3 13 1 9} true", "{0 0 0 0} false", "{1 11 1 3} true", "{1 11 1 3} true", "{1 11 1 3} true"))
	q.Remove(2)
	is(t, "example", told(next(1), next(2)), told("{3 13 1 9} true", "{1 11 1 3} true"))
	var empty Queue
	w, ok := empty.Next(1)
	var none *Queue
	v, is2 := none.Next(-1)
	is(t, "none", told(w, ok, v, is2), told(Wait{}, false, Wait{}, false))
}

func TestP2503ListOfLenCopy(t *testing.T) {
	q := three()
	is(t, "List", told(q.List(), q.Of(1), q.Of(0), q.Of(7), q.Len()), told([]Wait{wait(1), wait(2), wait(3)}, []Wait{wait(1), wait(3)}, []Wait{wait(2)}, []Wait{}, 3))
	c := q.Copy()
	c.Add(wait(9))
	q.Remove(1)
	is(t, "Copy", told(q.List(), c.List()), told([]Wait{wait(2), wait(3)}, []Wait{wait(1), wait(2), wait(3), wait(9)}))
	var none *Queue
	is(t, "nil", told(none.List(), none.Of(0), none.Len(), none.Copy() == nil, (&Queue{}).Copy().Len()), told([]Wait{}, []Wait{}, 0, true, 0))
}

func TestP2504Laws(t *testing.T) {
	var q Queue
	var want []Wait
	x := uint32(7)
	for range 3000 {
		x = x*1664525 + 1013904223
		task := int(x >> 8 % 16)
		if x>>24%2 == 0 {
			if q.Add(wait(task)) {
				want = append(want, wait(task))
			}
		} else {
			q.Remove(task)
			want = slices.DeleteFunc(want, func(w Wait) bool { return w.Task == task })
		}
		is(t, "in order", q.List(), want)
	}
}
