package hist

import (
	"fmt"
	"math"
	"strings"
	"testing"

	"bellrope/api"
)

// is compares what is told of two values.
func is(t *testing.T, what string, got, want any) {
	t.Helper()
	if fmt.Sprint(got) != fmt.Sprint(want) {
		t.Errorf("%s: %v, not %v", what, got, want)
	}
}

// told returns several results as one text.
func told(l ...any) string { return fmt.Sprintln(l...) }

// op returns a call that is done.
func op(who, index, obj, begin, end int) api.Op {
	return api.Op{Who: who, Index: index, Call: api.Call{Kind: api.Send, Obj: obj}, Done: true, Begin: begin, End: end}
}

// open returns a call that is not done.
func open(who, index, obj, begin int) api.Op {
	return api.Op{Who: who, Index: index, Call: api.Call{Kind: api.Recv, Obj: obj}, Begin: begin}
}

// some: a valid history.
func some() []api.Op {
	return []api.Op{op(0, 0, 0, 0, 3), op(-5, 2, 1, 1, 2), op(0, 3, 1, 4, 4), open(-5, 9, 0, 3), op(7, 1, 0, 5, 9)}
}

func TestP1801RightBefore(t *testing.T) {
	is(t, "Right", told(Right(some()), Right(nil)), told(true, true))
	edge := op(-99, 1<<30, -99, 1<<30, 1<<30)
	edge.Call.Kind, edge.Result.F = 99, 99
	is(t, "edges", told(Right([]api.Op{edge}), Right([]api.Op{op(99, 0, 99, 0, 0)})), told(true, true))
	for i, change := range []func(o *api.Op){
		func(o *api.Op) { o.Who = 100 }, func(o *api.Op) { o.Who = math.MinInt }, func(o *api.Op) { o.Index = -1 }, func(o *api.Op) { o.Index = 1<<30 + 1 }, func(o *api.Op) { o.Begin = -1 },
		func(o *api.Op) { o.End = 1<<30 + 1 }, func(o *api.Op) { o.Begin, o.End = math.MaxInt, math.MaxInt }, func(o *api.Op) { o.Call.Kind = -1 }, func(o *api.Op) { o.Call.Kind = 100 },
		func(o *api.Op) { o.Call.Obj = -100 }, func(o *api.Op) { o.Call.Obj = 100 }, func(o *api.Op) { o.Result.F = -1 }, func(o *api.Op) { o.Result.F = 100 }, func(o *api.Op) { o.End = 3 },
		func(o *api.Op) { o.Done = false }, func(o *api.Op) { o.Done, o.End, o.Result.F = false, 0, 1 }, func(o *api.Op) { o.Done, o.End, o.Result.V[3] = false, 0, 1 },
	} {
		o := op(1, 1, 1, 4, 6)
		change(&o)
		is(t, fmt.Sprint("wrong ", i), Right([]api.Op{o}), false)
	}
	for _, l := range [][]api.Op{{op(1, 1, 0, 0, 1), op(1, 1, 0, 2, 3)}, {op(1, 2, 0, 0, 1), op(1, 1, 0, 2, 3)}, {op(1, 1, 0, 0, 2), op(1, 2, 0, 2, 3)}, {op(1, 1, 0, 4, 5), op(1, 2, 0, 2, 3)},
		{open(1, 1, 0, 0), op(1, 2, 0, 2, 3)}, {op(1, 1, 0, 0, 1), op(2, 1, 0, 0, 1), op(1, 2, 0, 1, 1)}} {
		is(t, fmt.Sprint("wrong order ", l), Right(l), false)
	}
	is(t, "Before", told(Before(op(0, 0, 0, 0, 3), op(1, 0, 0, 4, 5)), Before(op(0, 0, 0, 0, 4), op(1, 0, 0, 4, 5)), Before(open(0, 0, 0, 0), op(1, 0, 0, 4, 5)), Before(op(0, 0, 0, 0, 3), open(1, 0, 0, 4))), told(true, false, false, true))
}

func TestP1802OfWhoseOverlap(t *testing.T) {
	l := some()
	is(t, "Of", told(Of(l, 0), Of(l, 1), Of(l, 2)), told([]api.Op{l[0], l[3], l[4]}, []api.Op{l[1], l[2]}, []api.Op{}))
	is(t, "Whose", told(Whose(l, 0), Whose(l, -5), Whose(l, 99)), told([]api.Op{l[0], l[2]}, []api.Op{l[1], l[3]}, []api.Op{}))
	is(t, "Overlap", told(Overlap(l), Overlap(nil), Overlap(l[:1]), Overlap(l[:2]), Overlap([]api.Op{l[0], l[2]})), told(4, 0, 0, 1, 0))
}

func TestP1803PrintParse(t *testing.T) {
	o := op(0, 0, 0, 0, 5)
	o.Call.V[0] = 5
	is(t, "example", Print([]api.Op{o}), "0 0 1 0 5 0 0 0 0 0 0 0 0 0 1 0 5\n")
	o = api.Op{Who: -1, Index: 2, Call: api.Call{Kind: 3, Obj: -4, V: api.Value{5, 6, 7, 1<<32 - 1}, N: 9}, Result: api.Result{F: 10, V: api.Value{11, 12, 13, 14}}, Done: true, Begin: 15, End: 16}
	line := "-1 2 3 -4 5 6 7 4294967295 9 10 11 12 13 14 1 15 16\n"
	is(t, "Print", told(Print([]api.Op{o}), Print([]api.Op{open(1, 2, 3, 4)}), Print(nil)), told(line, "1 2 2 3 0 0 0 0 0 0 0 0 0 0 0 4 0\n", ""))
	l, n, f := Parse("\n# so\n " + strings.ReplaceAll(line, " ", "\t ") + "1 2 2 3 0 0 0 0 0 0 0 0 0 0 0 4 0 # end")
	is(t, "Parse", told(l, n, f), told([]api.Op{o, open(1, 2, 3, 4)}, 0, 0))
	for _, s := range []string{"0", line + "x", line + strings.TrimSpace(line) + " 0", strings.Replace(line, "-1 ", "", 1), strings.Replace(line, "-1", "-100", 1), strings.Replace(line, "-1", "100", 1),
		strings.Replace(line, "4294967295", "4294967296", 1), strings.Replace(line, " 9 ", " -1 ", 1), strings.Replace(line, " 1 15", " 2 15", 1), strings.Replace(line, " 1 15", " 0 15", 1),
		strings.Replace(line, "16", "14", 1), strings.Replace(line, " 2 ", " 02 ", 1), strings.Replace(line, "10", "100", 1), strings.Replace(line, "3 -4", "100 -4", 1), strings.Replace(line, "15 16", "15 1073741825", 1)} {
		at := 1
		if strings.HasPrefix(s, line) {
			at = 2
		}
		l, n, f := Parse(s)
		is(t, "no line "+s, told(l, n, int(f)), told([]int{}, at, 3))
	}
	l, n, f = Parse(line + line)
	is(t, "no valid history", told(l, n, int(f)), told([]int{}, 0, 2))
	l, n, f = Parse(line + line + "x")
	is(t, "Syntax first", told(l, n, int(f)), told([]int{}, 3, 3))
	l, n, f = Parse("")
	is(t, "none", told(l, n, f), told([]int{}, 0, 0))
}

func TestP1804Laws(t *testing.T) {
	l, n, f := Parse(Print(some()))
	is(t, "Parse of Print", told(l, n, f), told(some(), 0, 0))
	for _, a := range some() {
		is(t, "irreflexive", Before(a, a), false)
		for _, b := range some() {
			for _, c := range some() {
				is(t, "transitive", Before(a, b) && Before(b, c) && !Before(a, c), false)
			}
		}
	}
}
