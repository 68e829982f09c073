package settle

import (
	"fmt"
	"math"
	"testing"

	"bellrope/api"
	"bellrope/core"
	"bellrope/plan"
	"bellrope/sample"
)

// is compares what is told of two values.
func is(t *testing.T, what string, got, want any) {
	t.Helper()
	if fmt.Sprint(got) != fmt.Sprint(want) {
		t.Errorf("%s: %v, not %v", what, got, want)
	}
}

// told returns several results as one text.
func told(l ...any) string { return fmt.Sprintln(l...) }

// dueOf tells what Due answers.
func dueOf(x *core.Core) string { return fmt.Sprint(Due(x)) }

// waiting: task 1 waits as the call says; task 0 and the handler of level 1 do what they are given.
func waiting(wait api.Call, calls, handler []api.Call) api.Config {
	return api.Config{Tasks: []api.Task{{Prio: 1, Code: calls}, {Prio: 2, Code: []api.Call{wait}}}, Levels: []api.Level{{Room: 2, Code: handler}}, Ticker: 1,
		Objects: []api.Object{{Kind: api.Ring, Cap: 1, Width: 1, From: 0, To: 1}, {Kind: api.Flags}, {Kind: api.Ring, Cap: 1, Width: 1, From: 1, To: 0}}}
}

// to returns a machine behind so many steps.
func to(c api.Config, steps int) *core.Core {
	x, _ := core.Run(c, make([]int, steps))
	return x
}

func TestP3901Due(t *testing.T) {
	c := waiting(api.Call{Kind: api.Sleep, N: 9}, nil, nil)
	x, _ := core.New(c)
	is(t, "new", dueOf(x), "1 true")
	x.Raise(1)
	is(t, "a level is pending", dueOf(x), "-1 false")
	x.Step()
	is(t, "no level is active any more", dueOf(x), "1 true")
	x.Do(0)
	x.Do(0)
	x.Do(0)
	is(t, "level 0 is pending", dueOf(x), "-1 false")
	x.Do(0)
	is(t, "level 0 is active", dueOf(x), "-1 false")
	is(t, "the other one", dueOf(to(c, 8)), "0 true")
	is(t, "nobody", told(dueOf(to(c, 20)), dueOf(nil)), told("-1 false", "-1 false"))
}

func TestP3902Holds(t *testing.T) {
	for _, v := range []struct {
		wait api.Call
		by   []api.Call
	}{
		{api.Call{Kind: api.RecvWait, N: 9}, []api.Call{{Kind: api.Send}}}, {api.Call{Kind: api.WaitAny, Obj: 1, V: api.Value{3}, N: 9}, []api.Call{{Kind: api.Set, Obj: 1, V: api.Value{2}}}},
		{api.Call{Kind: api.WaitAll, Obj: 1, V: api.Value{3}, N: 9}, []api.Call{{Kind: api.Set, Obj: 1, V: api.Value{2}}, {Kind: api.Set, Obj: 1, V: api.Value{1}}}}, {api.Call{Kind: api.Await, N: 9}, []api.Call{{Kind: api.Post, Obj: 1, V: api.Value{2}}}},
	} {
		c := waiting(v.wait, v.by, nil)
		x, _ := core.New(c)
		was, held := false, false
		for range 200 {
			_, waits := x.Asks(1)
			holds := Holds(c, x, 1)
			is(t, "only while it waits", holds && (!waits || x.Sched().State(1) != 2), false)
			was, held = was || x.Sched().State(1) == 2 && !holds, held || holds
			is(t, "others do not wait", told(Holds(c, x, 0), Holds(c, x, -1), Holds(c, x, 2), Holds(c, x, math.MinInt)), told(false, false, false, false))
			x.Step()
		}
		is(t, fmt.Sprint("Holds ", v.wait), told(was, held), told(true, true))
	}
	// Task 1 fills its ring and waits for room; task 0 takes what is in it.
	c := waiting(api.Call{}, []api.Call{{Kind: api.Recv, Obj: 2}}, nil)
	c.Tasks[1].Code = []api.Call{{Kind: api.Send, Obj: 2}, {Kind: api.SendWait, Obj: 2, N: 9}}
	x, _ := core.New(c)
	was, held := false, false
	for range 200 {
		was, held = was || x.Sched().State(1) == 2 && !Holds(c, x, 1), held || Holds(c, x, 1)
		x.Step()
	}
	is(t, "room", told(was, held), told(true, true))
	other := c
	other.Objects = other.Objects[:1]
	is(t, "others", told(Holds(c, nil, 1), Holds(api.Config{}, x, 1), Holds(other, x, 1)), told(false, false, false))
}

func TestP3903Quiet(t *testing.T) {
	c := waiting(api.Call{Kind: api.WaitAny, Obj: 1, V: api.Value{2}, N: 9}, []api.Call{{Kind: api.Set, Obj: 1, V: api.Value{2}}}, []api.Call{{Kind: api.Post}, {Kind: api.Tick}})
	x, _ := core.New(c)
	is(t, "new", Quiet(c, x), 0)
	clauses := func(c api.Config, x *core.Core, steps int) map[int]int {
		n := map[int]int{}
		for range steps {
			n[Quiet(c, x)]++
			if task, is2 := Due(x); is2 {
				is(t, fmt.Sprint("due ", task), Quiet(c, x), 0)
			}
			x.Step()
		}
		return n
	}
	n := clauses(c, x, 12)
	is(t, "the exceptions do not apply behind the Raise", told(n[Asks], n[Waits], n[Time], n[Lines]), told(2, 0, 0, 0))
	n = clauses(c, x, 30)
	is(t, "waits, until woken; then the choice", told(n[Waits] > 0, n[First] > 0), told(true, true))
	for clause, calls := range map[int][]api.Call{Lines: {{Kind: api.Post}}, Time: {{Kind: api.Tick}}} {
		c := waiting(api.Call{Kind: api.Sleep, N: 9}, nil, calls)
		x, _ := core.New(c)
		x.Raise(1)
		n = clauses(c, x, 30)
		is(t, fmt.Sprint("posts and ticks ", clause), n[clause] > 0, true)
	}
	other := c
	other.Objects = other.Objects[:1]
	is(t, "others", told(Quiet(c, nil), Quiet(api.Config{}, x), Quiet(other, x)), told(0, 0, 0))
	is(t, "clauses", told(Lines, Time, Waits, First, Asks), told(1, 2, 3, 4, 5))
	// A configuration of as many cells, but of other tasks and objects, is not the one of the machine.
	odd := c
	odd.Tasks, odd.Objects = make([]api.Task, 5), []api.Object{{Kind: api.Flags}, {Kind: api.Flags}, {Kind: api.Flags}, {Kind: api.Flags}}
	for range 300 {
		Quiet(odd, x)
		Holds(odd, x, 1)
		x.Step()
	}
}

// TestClauses: each clause, for cells that no run has.
func TestClauses(t *testing.T) {
	c := waiting(api.Call{Kind: api.WaitAny, Obj: 1, V: api.Value{2}, N: 9}, nil, nil)
	p, _ := plan.Of(c)
	x := to(c, 10)
	done := to(api.Config{Tasks: make([]api.Task, 1)}, 30)
	is(t, "nobody is ready", told(Quiet(api.Config{Tasks: make([]api.Task, 1)}, done), dueOf(done)), told(0, "-1 false"))
	is(t, "task 0 is due, task 1 waits", told(dueOf(x), Quiet(c, x)), told("0 true", 0))
	first := func(due int, raises bool, change func(words []uint32)) int {
		words := x.Words()
		change(words)
		s := &still{plan: p, seen: x.Seen(), sched: x.Sched(), due: due, raises: raises, word: func(at int) uint32 { return words[at] }}
		return s.broken()
	}
	nothing := func([]uint32) {}
	ask := func(task int) func([]uint32) { return func(w []uint32) { w[p.Ask[task]] = 1 } }
	flag := func(w []uint32) { w[p.Places[1].At] = 6 }
	is(t, "still", told(first(0, false, nothing), first(0, true, nothing), first(nobody, false, nothing)), told(0, 0, 0))
	is(t, "lines", told(first(0, true, func(w []uint32) { w[p.Lines[0].Q.At]++; w[p.Tick]++ }), first(0, false, func(w []uint32) { w[p.Lines[0].Q.At+1]++ })), told(Lines, Lines))
	is(t, "time", first(0, true, func(w []uint32) { w[p.Tick]++; flag(w) }), Time)
	is(t, "waits", told(first(0, false, flag), first(0, true, flag)), told(Waits, 0))
	is(t, "asks", told(first(0, true, ask(0)), first(0, false, ask(0)), first(0, true, ask(1)), first(1, true, ask(1)), first(nobody, false, ask(0))), told(0, Asks, Asks, 0, Asks))
	x.Do(0) // task 0 begins Exit, whose first act is a Store
	s, _ := look(p, x)
	is(t, "no Raise", told(s.due, s.raises), told(0, false))
	x.Do(0)
	s, _ = look(p, x)
	is(t, "Raise", told(s.due, s.raises), told(0, true))
}

func TestP3904Run(t *testing.T) {
	run := func(c api.Config, choices []int) string { return fmt.Sprint(Run(c, choices)) }
	c := waiting(api.Call{Kind: api.Sleep, N: 9}, nil, nil)
	// With clauses that are false now and then: only steps of tasks count, only the first one of them is told.
	for _, v := range []struct {
		from int
		want string
	}{{0, "0 3"}, {2, "2 3"}, {3, "8 3"}, {99, "0 0"}} {
		x, _ := core.New(c)
		step, clause := search(x, []int{0, -7, 0, 0, 0, 0, 0, 0, 0, 0, 0, 0}, func() int {
			if x.Steps() < v.from {
				return 0
			}
			return 3
		})
		is(t, "first", fmt.Sprint(step, clause), v.want)
	}
	is(t, "Run", told(run(c, make([]int, 50)), run(c, nil), run(api.Config{}, make([]int, 5)), run(c, []int{-1, 99, 0})), told("0 0", "0 0", "0 0", "0 0"))
}

func TestP3905Theorem(t *testing.T) {
	for seed := range uint32(250) {
		c := sample.Config(seed)
		step, clause := Run(c, sample.Choices(seed, len(c.Levels), 800))
		is(t, fmt.Sprint("seed ", seed), told(step, clause), told(0, 0))
	}
}
