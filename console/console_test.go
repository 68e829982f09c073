package console

import (
	"fmt"
	"math"
	"strings"
	"testing"

	"bellrope/api"
	"bellrope/core"
	"bellrope/drill"
	"bellrope/hist"
	"bellrope/sample"
	"bellrope/text"
	"bellrope/trace"
)

// is compares what is told of two values.
func is(t *testing.T, what string, got, want any) {
	t.Helper()
	if fmt.Sprint(got) != fmt.Sprint(want) {
		t.Errorf("%s: %v, not %v", what, got, want)
	}
}

func TestP4501Play(t *testing.T) {
	is(t, "no script", Play("task 3 2"), "line 1 range\n")
	is(t, "no call", Play("task 3 1\n\nnothing"), "line 3 syntax\n")
	is(t, "too long", Play(strings.Repeat(" ", api.MaxText+1)), "line 0 big\n")
	is(t, "no tasks", Play(""), "bad range 1 0\n")
	is(t, "wrong object", Play("task 1 0\nobject 4 0 0 0 0 0 0 0 0 0\nobject 1 3 1 0 0 0 0 0 0 0"), "bad power 4 1\n")
	is(t, "example", Play("object 4 0 0 0 0 0 5 0 0 0\nticker 0\ntask 1 0\nget\nchoose 0 0 0"),
		"steps 3\nraises 0\nentered 0\ntasks 3\nhandlers 0\nzero 0\nrests 0\ncalls 2\nanswered 1\ntries 1\nfault 0 1\nworst 0\nfar 1\nclean yes\n"+
			"0 0 9 0 0 0 0 0 0 0 5 0 0 0 1 0 1\n0 1 19 0 0 0 0 0 0 0 0 0 0 0 0 2 0\norder 0\ncells 5 0 0\n")
	is(t, "nothing happens", Play("task 1 0"), "steps 0\nraises 0\nentered 0\ntasks 0\nhandlers 0\nzero 0\nrests 0\ncalls 0\nanswered 0\ntries 0\nworst 0\nfar 0\nclean yes\norder\ncells 0 0\n")
	// The handler's Set comes between the acts of the task's Send, and the points are in that order.
	is(t, "order", strings.HasSuffix(Play("object 1 1 1 0 0 0 0 0 0 0\nobject 4 0 0 0 0 0 0 0 0 0\ntask 1 0\nsend 0 7\nlevel 1\nset 1 2\nchoose 0 0 0 1 0 0 0 0 0 0 0 0 0 0"), "\norder 1 0\ncells 0 1 7 2 0 0 0 0 0 0\n"), true)
}

func TestP4502FaultLines(t *testing.T) {
	words := strings.Fields("ok badarg range syntax missing twice full empty busy timeout owner context kind power big state")
	for f, w := range words {
		is(t, "Fault", Fault(api.Fault(f)), w)
	}
	is(t, "others", fmt.Sprint(Fault(16), Fault(-1), Fault(math.MaxInt)), "fault 16fault -1fault 9223372036854775807")
	is(t, "Lines", fmt.Sprint(Lines(""), Lines("a"), Lines("a\n"), Lines("\n\na\nb")), "0 0 1 3")
}

func TestP4503Theorem(t *testing.T) {
	for seed := range uint32(200) {
		c := sample.Config(seed)
		choices := sample.Choices(seed, len(c.Levels), 400)
		got := Play(text.Print(c, choices))
		is(t, fmt.Sprint("seed ", seed), strings.Contains(got, "\nclean yes\n"), true)
		x, _ := core.Run(c, choices)
		r, _ := drill.Of(c, choices)
		calls := hist.Print(trace.Calls(x.Events()))
		is(t, "parts", strings.HasPrefix(got, drill.Text(r)+calls+"order"), true)
		l, _, f := hist.Parse(calls)
		is(t, "calls", fmt.Sprint(len(l), f), fmt.Sprint(r.Calls, 0))
	}
}
