package task

import (
	"fmt"
	"math"
	"testing"
)

// is compares what is told of two values.
func is(t *testing.T, what string, got, want any) {
	t.Helper()
	if fmt.Sprint(got) != fmt.Sprint(want) {
		t.Errorf("%s: %v, not %v", what, got, want)
	}
}

// told returns several results as one text.
func told(l ...any) string { return fmt.Sprintln(l...) }

// taken tells what Taken answers.
func taken(x *Task) string { return fmt.Sprint(x.Taken()) }

// in returns a task in a state.
func in(state int) *Task {
	x := New()
	x.Go(state)
	return x
}

const nothing = "{false 0 0} false"

func TestP2601GoWakeGive(t *testing.T) {
	a, b := Answer{true, 1, 2}, Answer{Left: 3}
	for _, state := range []int{Waits, Sleeps, Ended} {
		x := New()
		is(t, "Go", told(x.Go(state), x.State(), x.Go(Waits), x.Go(Sleeps), x.Go(Ended), x.State()), told(true, state, false, false, false, state))
		is(t, "Give", told(x.Give(a), taken(x)), told(false, nothing))
		wakes := state != Ended
		is(t, "Wake", told(x.Wake(a), x.Wake(b), x.State() == Ready, taken(x)), told(wakes, false, wakes, map[bool]string{true: "{true 1 2} true", false: nothing}[wakes]))
	}
	x := New()
	for _, state := range []int{0, Ready, 5, -1, math.MinInt, math.MaxInt} {
		is(t, "no state to go to", told(x.Go(state), x.State()), told(false, Ready))
	}
	is(t, "ready", told(x.Wake(a), taken(x), x.Give(a), x.Give(b), taken(x), x.Give(Answer{}), taken(x)), told(false, nothing, true, true, "{false 0 3} true", true, "{false 0 0} true"))
	is(t, "states", told(Ready, Waits, Sleeps, Ended), told(1, 2, 3, 4))
}

func TestP2602Taken(t *testing.T) {
	x := New()
	is(t, "none", taken(x), nothing)
	x.Give(Answer{true, 5, 6})
	x.Go(Waits)
	is(t, "once", told(taken(x), taken(x)), told("{true 5 6} true", nothing))
}

func TestP2603NoteBitsClear(t *testing.T) {
	for _, state := range []int{Ready, Waits, Sleeps, Ended} {
		x := in(state)
		is(t, "bits", told(x.Bits(), x.Note(5), x.Note(6), x.Bits(), x.Note(0), x.Clear(), x.Clear(), x.Bits(), x.State()), told(0, 5, 7, 7, 7, 7, 0, 0, state))
	}
}

func TestP2604StateCopy(t *testing.T) {
	x := in(Waits)
	x.Note(3)
	x.Wake(Answer{true, 1, 1})
	c := x.Copy()
	c.Note(4)
	c.Go(Ended)
	is(t, "Copy", told(x.State(), x.Bits(), taken(x), c.State(), c.Bits(), taken(c), taken(c)), told(Ready, 3, "{true 1 1} true", Ended, 7, "{true 1 1} true", nothing))
	var none *Task
	for _, x := range []*Task{none, {}} {
		is(t, "none", told(x.State(), x.Go(Waits), x.Wake(Answer{}), x.Give(Answer{}), taken(x), x.Note(1), x.Bits(), x.Clear(), x.Copy() == nil, x.State()), told(0, false, false, false, nothing, 0, 0, 0, true, 0))
	}
}

func TestP2605Laws(t *testing.T) {
	x := in(Ended)
	for state := range 6 {
		is(t, "ended", told(x.Go(state), x.Wake(Answer{}), x.Give(Answer{}), x.State()), told(false, false, false, Ended))
	}
	for _, state := range []int{Waits, Sleeps} {
		x := in(state)
		x.Wake(Answer{true, 1, 2})
		is(t, "once", told(taken(x), taken(x)), told("{true 1 2} true", nothing))
	}
}
