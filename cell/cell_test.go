package cell

import (
	"fmt"
	"math"
	"testing"

	"bellrope/api"
)

// is compares what is told of two values.
func is(t *testing.T, what string, got, want any) {
	t.Helper()
	if fmt.Sprint(got) != fmt.Sprint(want) {
		t.Errorf("%s: %v, not %v", what, got, want)
	}
}

// told returns several results as one text.
func told(l ...any) string { return fmt.Sprintln(l...) }

func TestP601NewOf(t *testing.T) {
	is(t, "New", New(3).All(), []uint32{0, 0, 0})
	is(t, "lengths", told(New(0).Len(), New(-1).Len(), New(math.MinInt).Len(), New(api.MaxCells).Len(), New(api.MaxCells+1).Len(), New(math.MaxInt).Len()),
		told(0, 0, 0, api.MaxCells, api.MaxCells, api.MaxCells))
	l := []uint32{1, 2, 3}
	m := Of(l)
	l[0] = 9
	is(t, "Of", m.All(), []uint32{1, 2, 3})
	is(t, "Of none", Of(nil).Len(), 0)
	long := make([]uint32, api.MaxCells+2)
	long[api.MaxCells-1], long[api.MaxCells] = 7, 8
	m = Of(long)
	w, _ := m.Load(api.MaxCells - 1)
	is(t, "Of many", told(m.Len(), w), told(api.MaxCells, 7))
}

func TestP602Acts(t *testing.T) {
	m := New(2)
	is(t, "Store", told(m.Store(1, 6)), told(true))
	for _, c := range []struct {
		what string
		do   func(int, uint32) (uint32, bool)
		v    uint32
		want string
	}{
		{"Swap", m.Swap, 5, "6 true [0 5]"}, {"Or", m.Or, 10, "5 true [0 15]"}, {"And", m.And, 9, "15 true [0 9]"},
		{"Load", func(at int, _ uint32) (uint32, bool) { return m.Load(at) }, 0, "9 true [0 9]"},
	} {
		w, ok := c.do(1, c.v)
		is(t, c.what, fmt.Sprint(w, ok, m.All()), c.want)
		for _, at := range []int{-1, 2, math.MinInt, math.MaxInt} {
			before := fmt.Sprint(m.Count())
			w, ok := c.do(at, c.v)
			is(t, c.what+" of no cell", told(w, ok, m.Store(at, 1), fmt.Sprint(m.Count())), told(0, false, false, before))
		}
	}
	var none *Memory
	w, ok := none.Load(0)
	x, is2 := none.Or(0, 1)
	is(t, "nil", told(w, ok, x, is2, none.Store(0, 1)), told(0, false, 0, false, false))
}

func TestP603LenAllSameCount(t *testing.T) {
	m := Of([]uint32{1, 2})
	m.All()[0] = 9
	is(t, "All is new", m.All(), []uint32{1, 2})
	is(t, "Same", told(m.Same(Of([]uint32{1, 2})), m.Same(Of([]uint32{1, 3})), m.Same(Of([]uint32{3, 2})), m.Same(Of([]uint32{1})), m.Same(Of([]uint32{1, 2, 0}))), told(true, false, false, false, false))
	var none *Memory
	is(t, "Same as nil", told(m.Same(nil), New(0).Same(nil), none.Same(m), none.Same(New(0)), none.Same(nil)), told(false, true, false, true, true))
	loads, stores := none.Count()
	is(t, "nil", told(none.Len(), len(none.All()), loads, stores), told(0, 0, 0, 0))
	m.Load(0)
	m.Load(5)
	m.Store(0, 1)
	m.Store(1, 1)
	m.Swap(0, 1)
	m.Or(0, 1)
	m.And(0, 1)
	m.And(9, 1)
	loads, stores = m.Count()
	is(t, "Count", told(loads, stores), told(4, 5))
}

func TestP604Laws(t *testing.T) {
	m, want := New(5), make([]uint32, 5)
	x := uint32(7)
	for range 1000 {
		x = x*1664525 + 1013904223
		at, v := int(x>>8%5), x>>3
		var got uint32
		old := want[at]
		switch x >> 20 % 4 {
		case 0:
			m.Store(at, v)
			got, want[at] = old, v
		case 1:
			got, _ = m.Swap(at, v)
			want[at] = v
		case 2:
			got, _ = m.Or(at, v)
			want[at] |= v
		case 3:
			got, _ = m.And(at, v)
			want[at] &= v
		}
		now, _ := m.Load(at)
		is(t, "words", told(got, now, m.All()), told(old, want[at], want))
	}
}
