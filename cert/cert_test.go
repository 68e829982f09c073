package cert

import (
	"fmt"
	"math"
	"testing"

	"bellrope/api"
	"bellrope/spec"
)

// is compares what is told of two values.
func is(t *testing.T, what string, got, want any) {
	t.Helper()
	if fmt.Sprint(got) != fmt.Sprint(want) {
		t.Errorf("%s: %v, not %v", what, got, want)
	}
}

// told returns several results as one text.
func told(l ...any) string { return fmt.Sprintln(l...) }

// objects: a ring and flags.
func objects() []api.Object {
	return []api.Object{{Kind: api.Ring, Cap: 2, Width: 1}, {Kind: api.Flags}}
}

// op returns a call that is done.
func op(kind int, v uint32, f api.Fault, r uint32, begin, end int) api.Op {
	o := api.Op{Call: api.Call{Kind: kind, V: api.Value{v}}, Result: api.Result{F: f, V: api.Value{r}}, Done: true, Begin: begin, End: end}
	if kind == api.Set || kind == api.Get {
		o.Call.Obj = 1
	}
	return o
}

// overlapping: Send 5 and Recv of 5.
func overlapping() []api.Op {
	return []api.Op{op(api.Send, 5, 0, 0, 0, 5), op(api.Recv, 0, 0, 5, 2, 7)}
}

// check tells what Check answers.
func check(l []api.Op, order ...int) string {
	at, f := Check(objects(), l, order)
	return fmt.Sprint(at, int(f))
}

func TestP2001Whole(t *testing.T) {
	l := append(overlapping(), api.Op{Call: api.Call{Kind: api.Recv}})
	for _, c := range []struct {
		order []int
		want  bool
	}{{[]int{0, 1}, true}, {[]int{1, 0, 2}, true}, {[]int{2, 1, 0}, true}, {[]int{0}, false}, {[]int{1, 2}, false}, {nil, false}, {[]int{0, 1, 1}, false}, {[]int{0, 1, 3}, false}, {[]int{0, 1, -1}, false}, {[]int{0, 1, math.MinInt}, false}, {[]int{0, 1, 2, 2}, false}} {
		is(t, fmt.Sprint("Whole ", c.order), Whole(l, c.order), c.want)
	}
	is(t, "none", told(Whole(nil, nil), Whole(nil, []int{0}), Whole(l[2:], nil)), told(true, false, true))
}

func TestP2002Check(t *testing.T) {
	l := overlapping()
	is(t, "example", told(check(l, 0, 1), check(l, 1, 0)), told("0 0", "0 2"))
	is(t, "not whole", told(check(l, 0), check(l, 0, 0), check(l, 0, 1, 2)), told("0 1", "0 1", "0 1"))
	is(t, "none", check(nil), "0 0")
	apart := []api.Op{op(api.Set, 1, 0, 0, 0, 1), op(api.Set, 2, 0, 1, 2, 3), op(api.Get, 0, 0, 3, 3, 4)}
	is(t, "time", told(check(apart, 0, 1, 2), check(apart, 0, 2, 1), check(apart, 1, 0, 2)), told("0 0", "1 2", "0 2"))
	// Both errors at one position: the one of time is told.
	apart[1].Result.V[0] = 0
	is(t, "State first", told(check(apart, 1, 0, 2), check(apart, 0, 1, 2)), told("1 15", "1 2"))
	far := []api.Op{op(api.Set, 0, 0, 0, 0, 1), op(api.Set, 0, 0, 0, 9, 9), op(api.Set, 0, 0, 0, 1, 8)}
	is(t, "not only the one ahead", told(check(far, 1, 2, 0), check(far, 2, 1, 0), check(far, 2, 0, 1)), told("1 15", "2 15", "0 0"))
	under := []api.Op{op(api.Set, 0, 0, 0, 9, 9), op(api.Set, 0, 0, 0, 5, 12), op(api.Set, 0, 0, 0, 6, 7)}
	is(t, "behind one that began earlier", told(check(under, 0, 1, 2), check(under, 1, 0, 2), check(under, 1, 2, 0)), told("2 15", "2 15", "0 0"))
	open := append(overlapping(), api.Op{Call: api.Call{Kind: api.Recv}, Begin: 0}, api.Op{Call: api.Call{Kind: api.Send, V: api.Value{5}}, Begin: 20})
	is(t, "not done", told(check(open, 0, 1), check(open, 0, 2, 1), check(open, 2, 0, 1), check(open, 3, 1, 0), check(open, 0, 3, 1)), told("0 0", "2 2", "0 0", "1 15", "2 15"))
	is(t, "not done, without a result", check([]api.Op{{Call: api.Call{Kind: 99}}, op(api.Send, 1, 0, 0, 0, 0)}, 0, 1), "0 0")
	is(t, "busy", check([]api.Op{op(api.Send, 1, 8, 0, 0, 0)}, 0), "0 2")
}

func TestP2003Results(t *testing.T) {
	l := append(overlapping(), api.Op{Call: api.Call{Kind: api.Send, V: api.Value{6}}})
	r, s := Results(objects(), l, []int{-1, 1, 0, 7, 1, 2, 2})
	is(t, "Results", told(r, s[0].Row), told([]api.Result{{F: api.Empty}, {}, {V: api.Value{5}}, {}, {}}, []api.Value{{6}, {6}}))
	r, s = Results(objects(), nil, []int{0})
	is(t, "none", told(len(r), spec.Same(s, spec.Start(objects()))), told(0, true))
}

func TestP2004Laws(t *testing.T) {
	x := uint32(8)
	for range 500 {
		var l []api.Op
		var order []int
		for i := range 6 {
			x = x*1664525 + 1013904223
			begin := int(x >> 8 % 9)
			o := op([]int{api.Send, api.Recv, api.Set, api.Get}[x>>16%4], x>>20%3, api.Fault(x>>24%8/7*7), x>>27%2, begin, begin+int(x>>22%4))
			o.Done = x>>29 != 0
			l = append(l, o)
			at := int(x>>3) % (i + 1)
			order = append(order[:at], append([]int{i}, order[at:]...)...)
		}
		whole, f := Check(objects(), l, order)
		// A prefix is checked as the history of which only its calls are done.
		first, g := 0, api.OK
		for n := range len(order) + 1 {
			part := append([]api.Op(nil), l...)
			for _, i := range order[n:] {
				part[i].Done = false
			}
			first, g = Check(objects(), part, order[:n])
			if g != api.OK {
				break
			}
		}
		is(t, "prefixes", told(whole, f), told(first, g))
	}
}
