package nest

import (
	"fmt"
	"math"
	"slices"
	"testing"
)

// is compares what is told of two values.
func is(t *testing.T, what string, got, want any) {
	t.Helper()
	if fmt.Sprint(got) != fmt.Sprint(want) {
		t.Errorf("%s: %v, not %v", what, got, want)
	}
}

// told returns several results as one text.
func told(l ...any) string { return fmt.Sprintln(l...) }

func TestP801EnterLeave(t *testing.T) {
	var n Nest
	k, ok := n.Leave()
	is(t, "Leave none", told(k, ok), told(0, false))
	is(t, "Enter", told(n.Enter(2), n.Enter(2), n.Enter(1), n.Enter(5), n.Enter(31), n.Enter(32)), told(true, false, false, true, true, false))
	for _, want := range []int{31, 5, 2} {
		k, ok := n.Leave()
		is(t, "Leave", told(k, ok), told(want, true))
	}
	for _, k := range []int{-1, -2, 32, math.MinInt, math.MaxInt} {
		is(t, "no level", told(n.Enter(k), n.Deep()), told(false, 0))
	}
	is(t, "level 0", told(n.Enter(0), n.Top()), told(true, 0))
	var none *Nest
	k, ok = none.Leave()
	is(t, "nil", told(none.Enter(1), k, ok), told(false, 0, false))
}

func TestP802TopDeepListMost(t *testing.T) {
	var n Nest
	is(t, "none", told(n.Top(), n.Deep(), n.List(), n.Most()), told(-1, 0, []int{}, 0))
	n.Enter(1)
	n.Enter(4)
	n.Enter(9)
	n.Leave()
	is(t, "some", told(n.Top(), n.Deep(), n.List(), n.Most()), told(4, 2, []int{1, 4}, 3))
	n.List()[0] = 7
	_ = append(n.List(), 8)
	is(t, "List is new", n.List(), []int{1, 4})
	var none *Nest
	is(t, "nil", told(none.Top(), none.Deep(), none.List(), none.Most()), told(-1, 0, []int{}, 0))
}

func TestP803Copy(t *testing.T) {
	var n Nest
	n.Enter(1)
	c := n.Copy()
	c.Enter(3)
	n.Enter(2)
	is(t, "Copy", told(n.List(), c.List(), c.Most()), told([]int{1, 2}, []int{1, 3}, 2))
	var none *Nest
	is(t, "nil", none.Copy() == nil, true)
}

func TestP804Laws(t *testing.T) {
	var n Nest
	x := uint32(3)
	for range 3000 {
		x = x*1664525 + 1013904223
		if x>>20%3 == 0 {
			n.Leave()
		} else {
			n.Enter(int(x>>8%40) - 3)
		}
		is(t, "increasing", slices.IsSorted(n.List()) && len(slices.Compact(n.List())) == n.Deep() && n.Deep() <= 32, true)
	}
	var all Nest
	for k := range 40 {
		all.Enter(k)
	}
	is(t, "all", told(all.Deep(), all.Most(), all.Top()), told(32, 32, 31))
}
