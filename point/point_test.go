package point

import (
	"fmt"
	"math"
	"testing"

	"bellrope/api"
	"bellrope/cert"
	"bellrope/duel"
)

// is compares what is told of two values.
func is(t *testing.T, what string, got, want any) {
	t.Helper()
	if fmt.Sprint(got) != fmt.Sprint(want) {
		t.Errorf("%s: %v, not %v", what, got, want)
	}
}

// told returns several results as one text.
func told(l ...any) string { return fmt.Sprintln(l...) }

// objects: one of each kind, and one that is not valid.
func objects() []api.Object {
	return []api.Object{{Kind: api.Ring, Cap: 2, Width: 1}, {Kind: api.Four, Width: 1}, {Kind: api.Lock, Width: 1, Retry: 2}, {Kind: api.Flags}, {Kind: api.Ring}}
}

// call returns a call.
func call(kind, obj int, v uint32) api.Call {
	return api.Call{Kind: kind, Obj: obj, V: api.Value{v}}
}

// points runs threads and tells the points.
func points(threads [][]api.Call, picks ...int) string {
	return fmt.Sprint(Points(objects(), duel.Run(objects(), threads, picks)))
}

func TestP2201Points(t *testing.T) {
	for _, c := range []struct {
		what    string
		threads [][]api.Call
		picks   []int
		want    string
	}{
		{"Send", [][]api.Call{{call(api.Send, 0, 1)}, {call(api.Recv, 0, 0)}}, []int{0, 1, 0, 0, 0, 1}, "[9 -1]"},
		{"Recv", [][]api.Call{{call(api.Send, 0, 1), call(api.Recv, 0, 0)}}, []int{0, 0, 0, 0, 0, 0, 0, 0}, "[7 15]"},
		{"Recv, early", [][]api.Call{{call(api.Send, 0, 1), call(api.Recv, 0, 0)}}, []int{0, 0, 0, 0, 0, 0, 0}, "[7 -1]"},
		{"Full", [][]api.Call{{call(api.Send, 0, 1), call(api.Send, 0, 2), call(api.Send, 0, 3)}}, make([]int, 20), "[7 15 19]"},
		{"Send, early", [][]api.Call{{call(api.Send, 0, 1)}}, []int{0, 0, 0}, "[-1]"},
		{"refused", [][]api.Call{{call(api.Send, 4, 1), call(99, 0, 0), call(api.Get, 77, 0), call(api.Get, 0, 0)}}, []int{0, 0, 0, 0}, "[1 3 5 7]"},
		{"Flags", [][]api.Call{{call(api.Set, 3, 1), call(api.Clear, 3, 1), call(api.Get, 3, 0), call(api.WaitAny, 3, 0), call(api.WaitAll, 3, 0)}}, []int{0, 0, 0, 0, 0}, "[1 3 5 7 9]"},
		{"Lock", [][]api.Call{{call(api.Write, 2, 5)}, {call(api.Try, 2, 0), call(api.Again, 2, 0)}}, []int{0, 0, 1, 1, 0, 0, 1, 1, 1}, "[11 5 17]"},
		{"Lock, early", [][]api.Call{{call(api.Write, 2, 5)}, {call(api.Try, 2, 0)}}, []int{0, 0, 0, 1, 1}, "[-1 7]"},
		{"Try, early", [][]api.Call{{call(api.Try, 2, 0)}}, []int{0, 0}, "[-1]"},
		// A write chooses the pair that is not read: pair 1, which is not the latest one; then pair 1 again, which is.
		{"Four", [][]api.Call{{call(api.Write, 1, 5), call(api.Write, 1, 6)}}, make([]int, 20), "[9 17]"},
		{"Four, early", [][]api.Call{{call(api.Write, 1, 5)}}, make([]int, 4), "[-1]"},
		{"Four, early, in the latest pair", [][]api.Call{{call(api.Write, 1, 5), call(api.Write, 1, 6)}}, make([]int, 9), "[9 17]"},
		{"Read", [][]api.Call{{call(api.Read, 1, 0)}}, make([]int, 4), "[5]"},
		{"Read, early", [][]api.Call{{call(api.Read, 1, 0)}}, make([]int, 3), "[-1]"},
		{"Read, passed", [][]api.Call{{call(api.Write, 1, 5)}, {call(api.Read, 1, 0)}}, []int{0, 0, 0, 0, 1, 0, 1, 1, 1}, "[11 10]"},
		{"Read, passed later", [][]api.Call{{call(api.Write, 1, 5)}, {call(api.Read, 1, 0)}}, []int{0, 0, 0, 0, 1, 1, 0, 1, 1}, "[13 12]"},
		{"Read, the same pair is stored again", [][]api.Call{{call(api.Write, 1, 5), call(api.Write, 1, 6)}, {call(api.Read, 1, 0)}}, []int{0, 0, 0, 0, 0, 0, 0, 0, 0, 1, 0, 1, 1, 1}, "[9 17 25]"},
		{"Read, passed too late", [][]api.Call{{call(api.Write, 1, 5)}, {call(api.Read, 1, 0)}}, []int{0, 0, 0, 0, 1, 1, 1, 0, 1}, "[15 13]"},
	} {
		is(t, c.what, points(c.threads, c.picks...), c.want)
	}
	odd := duel.Log{Ops: []api.Op{{Who: 3, Call: call(api.Send, 0, 0), Begin: -9, End: math.MaxInt, Done: true}, {Begin: math.MaxInt}, {Call: call(api.Read, 1, 0), Begin: math.MinInt}, {Call: call(api.Get, -1, 0), Begin: 0, End: 0, Done: true}},
		Seen: []api.Seen{{Who: 0, Act: api.Act{Op: api.Load, At: -5}}, {Who: 3, Act: api.Act{Op: 99, At: 1 << 40}}}}
	is(t, "any log", len(Points(objects(), odd)), 4)
	is(t, "none", len(Points(nil, duel.Log{})), 0)
}

func TestP2202Order(t *testing.T) {
	is(t, "Order", told(Order([]int{5, -1, 3, 5, 0, -7, 3}), Order(nil), Order([]int{-1, math.MinInt}), Order([]int{math.MaxInt, 0})), told([]int{4, 2, 6, 0, 3}, []int{}, []int{}, []int{1, 0}))
}

func TestP2203Owned(t *testing.T) {
	for _, c := range []struct {
		a, b api.Call
		want bool
	}{
		{call(api.Send, 0, 0), call(api.Send, 0, 0), false}, {call(api.Recv, 0, 0), call(api.Recv, 0, 0), false}, {call(api.Send, 0, 0), call(api.Recv, 0, 0), true},
		{call(api.Write, 1, 0), call(api.Write, 1, 0), false}, {call(api.Read, 1, 0), call(api.Read, 1, 0), false}, {call(api.Write, 1, 0), call(api.Read, 1, 0), true}, {call(api.Write, 1, 0), call(api.Write, 2, 0), true},
		{call(api.Write, 2, 0), call(api.Write, 2, 0), false}, {call(api.Try, 2, 0), call(api.Try, 2, 0), true}, {call(api.Again, 2, 0), call(api.Again, 2, 0), true}, {call(api.Read, 2, 0), call(api.Read, 2, 0), true},
		{call(api.Set, 3, 0), call(api.Set, 3, 0), true}, {call(api.Send, 3, 0), call(api.Send, 3, 0), true}, {call(api.Send, 4, 0), call(api.Send, 4, 0), true}, {call(api.Send, 9, 0), call(api.Send, 9, 0), true}, {call(api.Send, -1, 0), call(api.Send, -1, 0), true},
		{call(api.SendWait, 0, 0), call(api.SendWait, 0, 0), true}, {call(api.Write, 0, 0), call(api.Write, 0, 0), true}, {call(api.Read, 0, 0), call(api.Read, 0, 0), true},
	} {
		is(t, fmt.Sprint("Owned ", c.a, c.b), told(Owned([][]api.Call{{c.a}, {c.b}}, objects()), Owned([][]api.Call{{c.a, c.b}, nil}, objects())), told(c.want, true))
	}
	is(t, "none", Owned(nil, nil), true)
}

func TestP2204Laws(t *testing.T) {
	seed := uint32(6)
	next := func(n uint32) uint32 {
		seed = seed*1664525 + 1013904223
		return seed >> 12 % n
	}
	for range 400 {
		threads := make([][]api.Call, 4)
		for range 24 {
			who := next(4)
			// The threads own: 0 the writing ends, 1 the reading ones; the others have what anybody may do.
			kinds := [][]api.Call{{call(api.Send, 0, next(9)), call(api.Write, 1, next(9)), call(api.Write, 2, next(9))}, {call(api.Recv, 0, 0), call(api.Read, 1, 0), call(api.Again, 2, 0)},
				{call(api.Try, 2, 0), call(api.Again, 2, 0), call(api.Set, 3, next(8))}, {call(api.Clear, 3, next(8)), call(api.WaitAny, 3, next(8)), call(api.WaitAll, 3, next(8)), call(api.Send, 1, 0)}}[who]
			threads[who] = append(threads[who], kinds[next(uint32(len(kinds)))])
		}
		var picks []int
		for range 40 + next(100) {
			picks = append(picks, int(next(4)))
		}
		log := duel.Run(objects(), threads, picks)
		points := Points(objects(), log)
		at, f := cert.Check(objects(), log.Ops, Order(points))
		is(t, "linearization", told(Owned(threads, objects()), at, f), told(true, 0, 0))
		for i, o := range log.Ops {
			if points[i] >= 0 {
				is(t, "within", points[i] >= 2*o.Begin && (!o.Done || points[i] <= 2*o.End+1), true)
			}
		}
	}
}
