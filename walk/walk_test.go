package walk

import (
	"fmt"
	"math"
	"testing"

	"bellrope/api"
	"bellrope/core"
	"bellrope/gauss"
	"bellrope/sample"
)

const most = 1 << 20

// is compares what is told of two values.
func is(t *testing.T, what string, got, want any) {
	t.Helper()
	if fmt.Sprint(got) != fmt.Sprint(want) {
		t.Errorf("%s: %v, not %v", what, got, want)
	}
}

// told returns several results as one text.
func told(l ...any) string { return fmt.Sprintln(l...) }

// events returns events of these kinds, of a handler; those of level 0 are told by a negative kind.
func events(kinds ...int) []core.Event {
	var l []core.Event
	for _, k := range kinds {
		e := core.Event{Kind: k, Ctx: -1}
		if k < 0 {
			e = core.Event{Kind: -k, Ctx: api.Drain}
		}
		l = append(l, e)
	}
	return l
}

// at returns a walk.
func at(re, im, turn int) Walk { return Walk{gauss.Num{Re: re, Im: im}, turn} }

// of tells what Of answers.
func of(l []core.Event) string { return fmt.Sprint(Of(l)) }

// then tells what Then answers.
func then(a, b Walk) string { return fmt.Sprint(Then(a, b)) }

// wrong: walks that are not valid.
func wrong() []Walk {
	return []Walk{at(0, 0, 4), at(0, 0, -1), at(most+1, 0, 0), at(0, -most-1, 0), at(0, math.MinInt, 0), at(0, 0, math.MaxInt), at(0, 0, math.MinInt)}
}

func TestP4101OfRight(t *testing.T) {
	is(t, "example", of(events(core.Enters, core.Does, core.Leaves)), "{{0 1} 0} true")
	is(t, "Of", told(of(nil), of(events(core.Does, -core.Does, core.Enters)), of(events(core.Rests)), of(events(core.Leaves, core.Does)), of(events(-core.Enters, -core.Does, core.Enters, core.Does, core.Rests, core.Rests))),
		told("{{0 0} 0} true", "{{3 0} 1} true", "{{-1 0} 0} true", "{{0 -1} 3} true", "{{1 2} 2} true"))
	is(t, "no effect", of(events(core.Begins, core.Ends, core.Zero, -core.Zero, core.Again, 0, 99, -99)), "{{0 0} 0} true")
	long := make([]core.Event, 1<<16+1)
	for i := range long {
		long[i] = core.Event{Kind: core.Does, Ctx: api.Drain}
	}
	is(t, "long", told(of(long[:1<<16]), of(long)), told("{{131072 0} 0} true", "{{0 0} 0} false"))
	is(t, "Right", told(Right(at(0, 0, 0)), Right(at(most, -most, 3))), told(true, true))
	for _, a := range wrong() {
		is(t, "wrong", Right(a), false)
	}
}

func TestP4102ThenBack(t *testing.T) {
	is(t, "Then", told(then(at(1, 2, 1), at(3, 4, 2)), then(at(1, 2, 3), at(3, 4, 3)), then(at(0, 0, 2), at(5, 0, 0))), told("{{-3 5} 3} true", "{{5 -1} 2} true", "{{-5 0} 2} true"))
	is(t, "too far", told(then(at(most, 0, 0), at(1, 0, 0)), then(at(most, 0, 0), at(0, 1, 1))), told("{{0 0} 0} false", fmt.Sprint(at(most, 1, 1), true)))
	for _, a := range []Walk{{}, at(3, 4, 1), at(-2, 7, 2), at(most, -most, 3), at(0, 5, 0)} {
		b, ok := Back(a)
		is(t, "Back", told(ok, then(a, b), then(b, a)), told(true, "{{0 0} 0} true", "{{0 0} 0} true"))
	}
	for _, a := range wrong() {
		b, ok := Back(a)
		is(t, "wrong", told(then(a, Walk{}), then(Walk{}, a), b, ok), told("{{0 0} 0} false", "{{0 0} 0} false", Walk{}, false))
	}
}

func TestP4103StepsFar(t *testing.T) {
	l := events(core.Does, core.Enters, core.Does, core.Does, core.Leaves, core.Rests, core.Rests)
	is(t, "Steps", Steps(l), "[{1 0} {1 0} {1 1} {1 2} {1 2} {0 2} {-1 2}]")
	is(t, "Far", told(Far(l), Far(l[:3]), Far(nil), len(Steps(nil))), told(5, 2, 0, 0))
	is(t, "not only at the end", Far(events(core.Does, core.Does, core.Rests)), 4)
	long := make([]core.Event, 1<<16+1)
	long[0].Kind = core.Does
	is(t, "long", told(Steps(long), Far(long), len(Steps(long[1:])), Far(long[:1<<16])), told([]int{}, 0, 1<<16, 1))
}

func TestP4104Laws(t *testing.T) {
	for seed := range uint32(40) {
		c := sample.Config(seed)
		x, _ := core.Run(c, sample.Choices(seed, len(c.Levels), 300))
		l := x.Events()
		a, _ := Of(l[:len(l)/3])
		b, _ := Of(l[len(l)/3 : len(l)/2])
		d, _ := Of(l[len(l)/2:])
		ab, _ := Then(a, b)
		bd, _ := Then(b, d)
		is(t, "consecutive", then(ab, d), of(l))
		is(t, "associative", then(a, bd), then(ab, d))
		// A run has as many quarter turns left as it has levels active.
		active := 0
		for _, e := range l {
			switch e.Kind {
			case core.Enters:
				active++
			case core.Leaves:
				active--
			}
		}
		whole, _ := Of(l)
		is(t, "Turn", told(whole.Turn, active == 0), told(active%4, x.Level() < 0))
	}
}
