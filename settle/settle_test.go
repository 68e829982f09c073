package settle

import (
	"fmt"
	"math"
	"testing"

	"bellrope/api"
	"bellrope/core"
	"bellrope/plan"
	"bellrope/sample"
	"bellrope/site"
)

// is compares what is told of two values.
func is(t *testing.T, what string, got, want any) {
	t.Helper()
	if fmt.Sprint(got) != fmt.Sprint(want) {
		t.Errorf("%s: %v, not %v", what, got, want)
	}
}

// told returns several results as one text.
func told(l ...any) string { return fmt.Sprintln(l...) }

// dueOf tells what Due answers.
func dueOf(x *core.Core) string { return fmt.Sprint(Due(x)) }

// waiting: task 1 waits as the call says; task 0 and the handler of level 1 do what they are given.
func waiting(wait api.Call, calls, handler []api.Call) api.Config {
	return api.Config{Tasks: []api.Task{{Prio: 1, Code: calls}, {Prio: 2, Code: []api.Call{wait}}}, Levels: []api.Level{{Room: 2, Code: handler}}, Ticker: 1,
		Objects: []api.Object{{Kind: api.Ring, Cap: 1, Width: 1, From: 0, To: 1}, {Kind: api.Flags}, {Kind: api.Ring, Cap: 1, Width: 1, From: 1, To: 0}}}
}

// to returns a machine behind so many steps.
func to(c api.Config, steps int) *core.Core {
	x, _ := core.Run(c, make([]int, steps))
	return x
}

func TestP3901Due(t *testing.T) {
	c := waiting(api.Call{Kind: api.Sleep, N: 9}, nil, nil)
	x, _ := core.New(c)
	is(t, "new", dueOf(x), "1 true")
	x.Raise(1)
	is(t, "a level is pending", dueOf(x), "-1 false")
	x.Step()
	is(t, "no level is active any more", dueOf(x), "1 true")
	x.Do(0)
	x.Do(0)
	x.Do(0)
	is(t, "level 0 is pending", dueOf(x), "-1 false")
	x.Do(0)
	is(t, "level 0 is active", dueOf(x), "-1 false")
	is(t, "the other one", dueOf(to(c, 8)), "0 true")
	is(t, "nobody", told(dueOf(to(c, 20)), dueOf(nil)), told("-1 false", "-1 false"))
}

func TestP3902Holds(t *testing.T) {
	for _, v := range []struct {
		wait api.Call
		by   []api.Call
	}{
		{api.Call{Kind: api.RecvWait, N: 9}, []api.Call{{Kind: api.Send}}}, {api.Call{Kind: api.WaitAny, Obj: 1, V: api.Value{3}, N: 9}, []api.Call{{Kind: api.Set, Obj: 1, V: api.Value{2}}}},
		{api.Call{Kind: api.WaitAll, Obj: 1, V: api.Value{3}, N: 9}, []api.Call{{Kind: api.Set, Obj: 1, V: api.Value{2}}, {Kind: api.Set, Obj: 1, V: api.Value{1}}}}, {api.Call{Kind: api.Await, N: 9}, []api.Call{{Kind: api.Post, Obj: 1, V: api.Value{2}}}},
	} {
		c := waiting(v.wait, v.by, nil)
		x, _ := core.New(c)
		was, held := false, false
		for range 200 {
			_, waits := x.Asks(1)
			holds := Holds(c, x, 1)
			is(t, "only while it waits", holds && (!waits || x.Sched().State(1) != 2), false)
			was, held = was || x.Sched().State(1) == 2 && !holds, held || holds
			is(t, "others do not wait", told(Holds(c, x, 0), Holds(c, x, -1), Holds(c, x, 2), Holds(c, x, math.MinInt)), told(false, false, false, false))
			x.Step()
		}
		is(t, fmt.Sprint("Holds ", v.wait), told(was, held), told(true, true))
	}
	// Task 1 fills its ring and waits for room; task 0 takes what is in it.
	c := waiting(api.Call{}, []api.Call{{Kind: api.Recv, Obj: 2}}, nil)
	c.Tasks[1].Code = []api.Call{{Kind: api.Send, Obj: 2}, {Kind: api.SendWait, Obj: 2, N: 9}}
	x, _ := core.New(c)
	was, held := false, false
	for range 200 {
		was, held = was || x.Sched().State(1) == 2 && !Holds(c, x, 1), held || Holds(c, x, 1)
		x.Step()
	}
	is(t, "room", told(was, held), told(true, true))
	other := c
	other.Objects = other.Objects[:1]
	is(t, "others", told(Holds(c, nil, 1), Holds(api.Config{}, x, 1), Holds(other, x, 1)), told(false, false, false))
}

func TestP3903Quiet(t *testing.T) {
	c := waiting(api.Call{Kind: api.WaitAny, Obj: 1, V: api.Value{2}, N: 9}, []api.Call{{Kind: api.Set, Obj: 1, V: api.Value{2}}}, []api.Call{{Kind: api.Post}, {Kind: api.Tick}})
	x, _ := core.New(c)
	is(t, "new", Quiet(c, x), 0)
	clauses := func(c api.Config, x *core.Core, steps int) map[int]int {
		n := map[int]int{}
		for range steps {
			n[Quiet(c, x)]++
			if task, is2 := Due(x); is2 {
				is(t, fmt.Sprint("due ", task), Quiet(c, x), 0)
			}
			x.Step()
		}
		return n
	}
	n := clauses(c, x, 12)
	is(t, "the exceptions do not apply behind the Raise", told(n[Asks], n[Waits], n[Time], n[Lines]), told(2, 0, 0, 0))
	n = clauses(c, x, 30)
	is(t, "waits, until woken; then the choice", told(n[Waits] > 0, n[First] > 0), told(true, true))
	for clause, calls := range map[int][]api.Call{Lines: {{Kind: api.Post}}, Time: {{Kind: api.Tick}}} {
		c := waiting(api.Call{Kind: api.Sleep, N: 9}, nil, calls)
		x, _ := core.New(c)
		x.Raise(1)
		n = clauses(c, x, 30)
		is(t, fmt.Sprint("posts and ticks ", clause), n[clause] > 0, true)
	}
	other := c
	other.Objects = other.Objects[:1]
	is(t, "others", told(Quiet(c, nil), Quiet(api.Config{}, x), Quiet(other, x)), told(0, 0, 0))
	is(t, "clauses", told(Lines, Time, Waits, First, Asks), told(1, 2, 3, 4, 5))
	// A configuration of as many cells, but of other tasks and objects, is not the one of the machine.
	odd := c
	odd.Tasks, odd.Objects = make([]api.Task, 5), []api.Object{{Kind: api.Flags}, {Kind: api.Flags}, {Kind: api.Flags}, {Kind: api.Flags}}
	for range 300 {
		Quiet(odd, x)
		Holds(odd, x, 1)
		x.Step()
	}
}

// raising returns a machine behind so many steps and the raising of a level, whose handler is about to raise level 0.
func raising(t *testing.T, c api.Config, steps, level int) *core.Core {
	t.Helper()
	x := to(c, steps)
	x.Raise(level)
	for range 20 {
		x.Step()
		if _, next, busy := x.Now(-level); busy && next.Op == api.Raise {
			return x
		}
	}
	t.Fatal("no Raise of level ", level)
	return nil
}

// TestP3903NobodyDue: a handler that is about to raise level 0 is not a task that is due, whatever its number.
func TestP3903NobodyDue(t *testing.T) {
	send := []api.Call{{Kind: api.Send}}
	wait := []api.Call{{Kind: api.RecvWait, N: api.Forever}}
	ring := func(from int) []api.Object {
		return []api.Object{{Kind: api.Ring, Cap: 1, Width: 1, From: from, To: 0}}
	}
	for level := 1; level <= 3; level++ {
		c := api.Config{Tasks: []api.Task{{Prio: 1, Code: wait}}, Levels: []api.Level{{Room: 1}, {Room: 1}, {Room: 1}}, Objects: ring(-level)}
		c.Levels[level-1].Code = send
		x := raising(t, c, 20, level)
		what := fmt.Sprint("level ", level)
		is(t, what, told(dueOf(x), Holds(c, x, 0), Quiet(c, x)), told("-1 false", true, Waits))
		for range 3 {
			x.Step()
		}
		is(t, what+" has raised level 0", told(dueOf(x), Holds(c, x, 0), Quiet(c, x)), told("-1 false", true, Waits))
	}
	// While task 1 is between its Store and its Raise, a handler is about to raise level 0 as well.
	c := waiting(api.Call{Kind: api.Yield}, nil, []api.Call{{Kind: api.Set, Obj: 1, V: api.Value{1}}})
	is(t, "task 1 is due and about to raise", told(dueOf(to(c, 2)), Quiet(c, to(c, 2))), told("1 true", 0))
	x := raising(t, c, 2, 1)
	is(t, "a request, and no task is due", told(dueOf(x), Quiet(c, x)), told("-1 false", Asks))
	for range 2 {
		x.Step()
	}
	is(t, "only the handler's Raise is over", told(dueOf(x), Quiet(c, x)), told("-1 false", Asks))
}

// direct returns the first clause of P3903 that is false, read from the machine alone.
func direct(c api.Config, p plan.Plan, x *core.Core) int {
	words, s := x.Words(), x.Sched()
	task, about := Due(x)
	if about {
		_, next, _ := x.Now(task)
		about = next.Op == api.Raise
	}
	for _, l := range p.Lines {
		if words[site.Cell(l.Q, site.Head, 0, 0)] != words[site.Cell(l.Q, site.Tail, 0, 0)] {
			return Lines
		}
	}
	if words[p.Tick] != x.Seen() {
		return Time
	}
	for other := range c.Tasks {
		if !about && Holds(c, x, other) {
			return Waits
		}
	}
	if ready := append(s.Ready(), -1); ready[0] != s.Current() {
		return First
	}
	for other, at := range p.Ask {
		if words[at] != 0 && (!about || other != task) {
			return Asks
		}
	}
	return 0
}

// woken returns a configuration whose tasks wait, again and again, for what handlers do; samples are seldom like that.
func woken() api.Config {
	wait := api.Call{Kind: api.WaitAny, Obj: 1, V: api.Value{3}, N: 2}
	set := api.Call{Kind: api.Set, Obj: 1, V: api.Value{1}}
	return api.Config{
		Tasks: []api.Task{
			{Prio: 3, Loop: true, Code: []api.Call{{Kind: api.RecvWait, N: api.Forever}}},
			{Prio: 2, Loop: true, Code: []api.Call{wait, {Kind: api.Clear, Obj: 1, V: api.Value{3}}}},
			{Prio: 1, Loop: true, Code: []api.Call{{Kind: api.Sleep, N: 1}, set}},
		},
		Levels:  []api.Level{{Room: 1, Code: []api.Call{{Kind: api.Send}, set}}, {Room: 1, Code: []api.Call{set, {Kind: api.Tick}, {Kind: api.Post, Obj: 2}}}},
		Objects: []api.Object{{Kind: api.Ring, Cap: 2, Width: 1, From: -1, To: 0}, {Kind: api.Flags}},
		Ticker:  2,
	}
}

// TestP3903Boundaries: Quiet, at all boundaries of many runs, is what the clauses say, whether a task is due or not.
func TestP3903Boundaries(t *testing.T) {
	handed := 0 // boundaries at which the handler of level 1 is about to raise level 0, and a wait is over
	seen := map[int]int{}
	follow := func(seed uint32, c api.Config) {
		p, _ := plan.Of(c)
		x, _ := core.New(c)
		for at, choice := range sample.Choices(seed, len(c.Levels), 300) {
			want, got := direct(c, p, x), Quiet(c, x)
			if got != want {
				t.Fatalf("seed %d, ahead of choice %d: %d, not %d", seed, at, got, want)
			}
			seen[got]++
			_, next, _ := x.Now(-1)
			if _, due := Due(x); !due && got == Waits && next.Op == api.Raise {
				handed++
			}
			x.Do(choice)
		}
	}
	for seed := range uint32(60) {
		follow(seed, sample.Config(seed))
		follow(seed, woken())
	}
	for clause := range Asks + 1 {
		is(t, fmt.Sprint("clause ", clause, " occurs"), seen[clause] > 0, true)
	}
	is(t, "a handler that is about to raise occurs", handed > 0, true)
}

// TestClauses: each clause, for cells that no run has.
func TestClauses(t *testing.T) {
	c := waiting(api.Call{Kind: api.WaitAny, Obj: 1, V: api.Value{2}, N: 9}, nil, nil)
	p, _ := plan.Of(c)
	x := to(c, 10)
	done := to(api.Config{Tasks: make([]api.Task, 1)}, 30)
	is(t, "nobody is ready", told(Quiet(api.Config{Tasks: make([]api.Task, 1)}, done), dueOf(done)), told(0, "-1 false"))
	is(t, "task 0 is due, task 1 waits", told(dueOf(x), Quiet(c, x)), told("0 true", 0))
	first := func(raiser int, change func(words []uint32)) int {
		words := x.Words()
		change(words)
		s := &still{plan: p, seen: x.Seen(), sched: x.Sched(), raiser: raiser, word: func(at int) uint32 { return words[at] }}
		return s.broken()
	}
	nothing := func([]uint32) {}
	ask := func(task int) func([]uint32) { return func(w []uint32) { w[p.Ask[task]] = 1 } }
	flag := func(w []uint32) { w[p.Places[1].At] = 6 }
	is(t, "still", told(first(nobody, nothing), first(0, nothing)), told(0, 0))
	is(t, "lines", told(first(0, func(w []uint32) { w[p.Lines[0].Q.At]++; w[p.Tick]++ }), first(nobody, func(w []uint32) { w[p.Lines[0].Q.At+1]++ })), told(Lines, Lines))
	is(t, "time", first(0, func(w []uint32) { w[p.Tick]++; flag(w) }), Time)
	is(t, "waits", told(first(nobody, flag), first(0, flag)), told(Waits, 0))
	is(t, "asks", told(first(0, ask(0)), first(0, ask(1)), first(1, ask(1)), first(nobody, ask(0))), told(0, Asks, 0, Asks))
	x.Do(0) // task 0 begins Exit, whose first act is a Store
	s, _ := look(p, x)
	is(t, "no Raise", told(dueOf(x), s.raiser), told("0 true", nobody))
	x.Do(0)
	s, _ = look(p, x)
	is(t, "Raise", told(dueOf(x), s.raiser), told("0 true", 0))
}

func TestP3904Run(t *testing.T) {
	run := func(c api.Config, choices []int) string { return fmt.Sprint(Run(c, choices)) }
	c := waiting(api.Call{Kind: api.Sleep, N: 9}, nil, nil)
	// With clauses that are false now and then: only steps of tasks count, only the first one of them is told.
	for _, v := range []struct {
		from int
		want string
	}{{0, "0 3"}, {2, "2 3"}, {3, "8 3"}, {99, "0 0"}} {
		x, _ := core.New(c)
		step, clause := search(x, []int{0, -7, 0, 0, 0, 0, 0, 0, 0, 0, 0, 0}, func() int {
			if x.Steps() < v.from {
				return 0
			}
			return 3
		})
		is(t, "first", fmt.Sprint(step, clause), v.want)
	}
	is(t, "Run", told(run(c, make([]int, 50)), run(c, nil), run(api.Config{}, make([]int, 5)), run(c, []int{-1, 99, 0})), told("0 0", "0 0", "0 0", "0 0"))
}

func TestP3905Theorem(t *testing.T) {
	for seed := range uint32(250) {
		c := sample.Config(seed)
		step, clause := Run(c, sample.Choices(seed, len(c.Levels), 800))
		is(t, fmt.Sprint("seed ", seed), told(step, clause), told(0, 0))
	}
}
