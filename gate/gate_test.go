package gate

import (
	"fmt"
	"math"
	"math/bits"
	"testing"
)

// is compares what is told of two values.
func is(t *testing.T, what string, got, want any) {
	t.Helper()
	if fmt.Sprint(got) != fmt.Sprint(want) {
		t.Errorf("%s: %v, not %v", what, got, want)
	}
}

// told returns several results as one text.
func told(l ...any) string { return fmt.Sprintln(l...) }

// next returns the text of a boundary.
func next(g *Gate) string { return fmt.Sprint(g.Next()) }

func TestP901New(t *testing.T) {
	for n, want := range map[int]int{0: 0, -1: 0, math.MinInt: 0, 5: 5, 31: 31, 32: 31, math.MaxInt: 31} {
		g := New(n)
		is(t, "New", told(g.Levels(), g.Pending(), g.Level(), g.Served(), next(g)), told(want, 0, -1, []int{}, "-1 false"))
	}
}

func TestP902RaiseNextLeave(t *testing.T) {
	g := New(3)
	is(t, "Raise", told(g.Raise(1), next(g), g.Raise(3), g.Raise(2), g.Raise(2), next(g), next(g)), told(true, "1 true", true, true, false, "3 true", "3 false"))
	k, ok := g.Leave()
	is(t, "Leave", told(k, ok, next(g)), told(3, true, "2 true"))
	is(t, "again while active", told(g.Raise(2), next(g), g.Pending()), told(true, "2 false", 4))
	g.Leave()
	is(t, "entered again", next(g), "2 true")
	is(t, "no such level", told(g.Raise(4), g.Raise(-1), g.Raise(math.MaxInt), g.Raise(math.MinInt)), told(false, false, false, false))
	g.Leave()
	g.Raise(0)
	is(t, "a lower level waits", told(next(g), g.Pending()), told("1 false", 1))
	g.Leave()
	is(t, "level 0", next(g), "0 true")
	g.Leave()
	k, ok = g.Leave()
	is(t, "nothing active", told(k, ok, next(g)), told(0, false, "-1 false"))
	var none *Gate
	k, ok = none.Leave()
	is(t, "nil", told(none.Raise(0), next(none), k, ok), told(false, "-1 false", 0, false))
}

func TestP903Reports(t *testing.T) {
	g := New(9)
	for _, k := range []int{2, 7, 7, 3} {
		g.Raise(k)
	}
	is(t, "pending", told(g.Level(), g.Pending(), g.Served(), g.Mask()), told(-1, 1<<2+1<<7+1<<3, []int{}, 0))
	g.Next()
	g.Raise(8)
	g.Next()
	is(t, "served", told(g.Level(), g.Pending(), g.Served(), g.Mask(), g.Levels()), told(8, 1<<2+1<<3, []int{7, 8}, 0, 9))
	raised, merged, entered := g.Count()
	is(t, "Count", told(raised, merged, entered), told(4, 1, 2))
	g.Served()[0] = 1
	is(t, "Served is new", g.Served(), []int{7, 8})
	var none *Gate
	raised, merged, entered = none.Count()
	is(t, "nil", told(none.Level(), none.Pending(), none.Served(), none.Mask(), none.Levels(), raised, merged, entered), told(-1, 0, []int{}, 0, 0, 0, 0, 0))
}

func TestP904Laws(t *testing.T) {
	g := New(31)
	x := uint32(11)
	for range 5000 {
		x = x*1664525 + 1013904223
		switch x >> 20 % 3 {
		case 0:
			g.Raise(int(x >> 8 % 33))
		case 1:
			g.Leave()
		case 2:
			top, pending := g.Level(), bits.Len32(g.Pending())-1
			level, enters := g.Next()
			is(t, "enters", enters, pending > top)
			is(t, "level", level, max(top, pending))
			is(t, "greatest", bits.Len32(g.Pending())-1 <= level, true)
		}
	}
}
