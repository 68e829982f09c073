package lin

import (
	"fmt"
	"math"
	"slices"
	"testing"

	"bellrope/api"
	"bellrope/cert"
)

// is compares what is told of two values.
func is(t *testing.T, what string, got, want any) {
	t.Helper()
	if fmt.Sprint(got) != fmt.Sprint(want) {
		t.Errorf("%s: %v, not %v", what, got, want)
	}
}

// told returns several results as one text.
func told(l ...any) string { return fmt.Sprintln(l...) }

// objects: a ring and flags.
func objects() []api.Object {
	return []api.Object{{Kind: api.Ring, Cap: 1, Width: 1}, {Kind: api.Flags}}
}

// op returns a call that is done.
func op(kind int, v uint32, f api.Fault, r uint32, begin, end int) api.Op {
	o := api.Op{Call: api.Call{Kind: kind, V: api.Value{v}}, Result: api.Result{F: f, V: api.Value{r}}, Done: true, Begin: begin, End: end}
	if kind == api.Set || kind == api.Get {
		o.Call.Obj = 1
	}
	return o
}

// found tells what Find answers.
func found(l []api.Op) string { return fmt.Sprint(Find(objects(), l)) }

// some returns a history that depends on seed.
func some(seed *uint32, n int) []api.Op {
	var l []api.Op
	for range n {
		*seed = *seed*1664525 + 1013904223
		x := *seed
		begin := int(x >> 8 % 7)
		o := op([]int{api.Send, api.Recv, api.Set, api.Get}[x>>16%4], x>>20%2, 0, x>>27%2, begin, begin+int(x>>22%5)-int(x>>30/3))
		if o.Call.Kind == api.Send {
			o.Result.V[0] = 0
		}
		if x>>24%4 == 0 {
			o.Done, o.End, o.Result = false, 0, api.Result{}
		}
		l = append(l, o)
	}
	return l
}

// orders returns all orders of distinct calls for which Check returns OK, lexicographically.
func orders(l []api.Op) [][]int {
	var all [][]int
	var visit func(order []int)
	visit = func(order []int) {
		if _, f := cert.Check(objects(), l, order); f == api.OK {
			all = append(all, slices.Clone(order))
		}
		for i := range l {
			if !slices.Contains(order, i) {
				visit(append(slices.Clone(order), i))
			}
		}
	}
	visit(nil)
	return all
}

func TestP2101Find(t *testing.T) {
	is(t, "example", found([]api.Op{op(api.Send, 5, 0, 0, 0, 5), op(api.Recv, 0, 0, 5, 2, 7)}), "[0 1] true")
	is(t, "turned", found([]api.Op{op(api.Recv, 0, 0, 5, 2, 7), op(api.Send, 5, 0, 0, 0, 5)}), "[1 0] true")
	is(t, "none", found([]api.Op{op(api.Recv, 0, 0, 5, 0, 1), op(api.Send, 5, 0, 0, 2, 3)}), "[] false")
	is(t, "empty", found(nil), "[] true")
	is(t, "only what is done", found([]api.Op{{Call: api.Call{Kind: api.Send}}}), "[] true")
	is(t, "with one that is not done", found([]api.Op{{Call: api.Call{Kind: api.Send, V: api.Value{3}}}, op(api.Recv, 0, 0, 3, 2, 7)}), "[0 1] true")
	is(t, "without one that is not done", found([]api.Op{op(api.Recv, 0, api.Empty, 0, 2, 7), {Call: api.Call{Kind: api.Send, V: api.Value{3}}}}), "[0] true")
	is(t, "prefixes are less", found([]api.Op{{Call: api.Call{Kind: api.Send, Obj: 9}}, op(api.Get, 0, 0, 0, 2, 7)}), "[0 1] true")
	var many []api.Op
	for range Most {
		many = append(many, op(api.Set, 1, 0, 1, 0, 9))
	}
	many[Most-1].Result.V[0] = 0
	order, ok := Find(objects(), many)
	is(t, "the most", told(ok, order[:2], len(order)), told(true, []int{Most - 1, 0}, Most))
	is(t, "too many", found(append(many, many[0])), "[] false")
	seed := uint32(1)
	for range 300 {
		l := some(&seed, 5)
		want := "[] false"
		if all := orders(l); len(all) > 0 {
			want = fmt.Sprint(all[0], true)
		}
		is(t, fmt.Sprint("least ", l), found(l), want)
	}
}

func TestP2102Next(t *testing.T) {
	l := []api.Op{op(api.Set, 0, 0, 0, 0, 4), op(api.Set, 0, 0, 0, 1, 2), op(api.Set, 0, 0, 0, 3, 9), {Begin: 0}, op(api.Set, 0, 0, 0, 5, 5)}
	is(t, "Next", told(Next(l, 0), Next(l, 2), Next(l, 3), Next(l, 31), Next(l, math.MaxUint32), Next(nil, 0)), told([]int{0, 1, 3}, []int{0, 2, 3}, []int{2, 3, 4}, []int{}, []int{}, []int{}))
	is(t, "too many", Next(make([]api.Op, Most+1), 0), []int{})
	is(t, "the most", len(Next(make([]api.Op, Most), 0)), Most)
}

func TestP2103Count(t *testing.T) {
	seed := uint32(2)
	for range 200 {
		l := some(&seed, 4)
		all := orders(l)
		want := 0
		for _, a := range all {
			longer := func(b []int) bool { return len(b) > len(a) && slices.Equal(b[:len(a)], a) }
			if !slices.ContainsFunc(all, longer) {
				want++
			}
		}
		is(t, "Count", told(Count(objects(), l, 1000), Count(objects(), l, 2), Count(objects(), l, 0), Count(objects(), l, math.MinInt)), told(want, min(want, 2), 0, 0))
	}
	is(t, "empty", told(Count(objects(), nil, 5), Count(objects(), make([]api.Op, Most+1), 5)), told(1, 0))
	var many []api.Op
	for range Most {
		many = append(many, op(api.Set, 1, 0, 1, 0, 9))
	}
	many[0].Result.V[0] = 0
	is(t, "23!", Count(objects(), many, 1000), 1000)
	is(t, "12!", told(Count(objects(), many[:13], math.MaxInt), Count(objects(), many[:13], 479001600), Count(objects(), many[:13], 479001599)), told(479001600, 479001600, 479001599))
}

func TestP2104Laws(t *testing.T) {
	seed := uint32(3)
	for range 500 {
		l := some(&seed, 8)
		order, ok := Find(objects(), l)
		if ok {
			_, f := cert.Check(objects(), l, order)
			is(t, "sound", f, api.OK)
		}
		is(t, "complete", ok, Count(objects(), l, 1) > 0)
	}
}
