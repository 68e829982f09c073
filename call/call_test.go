package call

import (
	"fmt"
	"testing"

	"bellrope/act"
	"bellrope/api"
	"bellrope/bound"
	"bellrope/cell"
	"bellrope/gate"
	"bellrope/plan"
	"bellrope/spec"
	"bellrope/task"
)

// is compares what is told of two values.
func is(t *testing.T, what string, got, want any) {
	t.Helper()
	if fmt.Sprint(got) != fmt.Sprint(want) {
		t.Errorf("%s: %v, not %v", what, got, want)
	}
}

// told returns several results as one text.
func told(l ...any) string { return fmt.Sprintln(l...) }

// some: a configuration: the cells are: ring 0 to 2, four 3 to 10, lock 11 to 12, flags 13, line 14 to 16, over 17, tick 18, asks 19 and 20.
func some() api.Config {
	return api.Config{Tasks: make([]api.Task, 2), Levels: []api.Level{{Room: 1}}, Ticker: 1, Objects: []api.Object{{Kind: api.Ring, Cap: 1, Width: 1, From: 0, To: 0},
		{Kind: api.Four, Width: 1, From: 0, To: 0}, {Kind: api.Lock, Width: 1, Retry: 1, From: 0}, {Kind: api.Flags}}}
}

// call returns a call.
func call(kind, obj int, n uint32, v ...uint32) api.Call {
	c := api.Call{Kind: kind, Obj: obj, N: n}
	copy(c.V[:], v)
	return c
}

// run performs the acts of a call as long as there are some, and tells them, the request, and the result.
func run(m *cell.Memory, x *Call) string {
	text := ""
	g := gate.New(0)
	for a, ok := x.Act(); ok; a, ok = x.Act() {
		got, _ := act.Do(m, g, a)
		x.Take(got)
		text += act.Text(a) + "; "
	}
	if r, ok := x.Asks(); ok {
		text += fmt.Sprint("asks ", r, "; ")
	}
	x.Take(9)
	if res, ok := x.Result(); ok {
		text += fmt.Sprint(int(res.F), res.V)
	}
	return text
}

func TestP3201New(t *testing.T) {
	for _, c := range []struct {
		ctx  int
		x    api.Call
		want string
	}{
		{0, call(99, 0, 0), "1 [0 0 0 0]"}, {-1, call(api.Sleep, 0, 0), "11 [0 0 0 0]"}, {5, call(api.Get, 3, 0), "1 [0 0 0 0]"}, {1, call(api.Send, 0, 0), "10 [0 0 0 0]"}, {0, call(api.Get, 9, 0), "4 [0 0 0 0]"}, {0, call(api.Get, 2, 0), "12 [0 0 0 0]"},
		{-1, call(api.Post, 1, 0, 7), "load 15; load 14; store 16 65543; store 15 1; raise; 0 [0 0 0 0]"}, {-1, call(api.Tick, 0, 0), "load 18; store 18 1; raise; 0 [0 0 0 0]"},
		{1, call(api.Post, 0, 3, 7, 8), "store 20 10; raise; asks {10 0 0 0 7}; "}, {0, call(api.Yield, 5, 5, 5), "store 19 12; raise; asks {12 0 0 0 0}; "}, {0, call(api.Sleep, 5, 6, 7), "store 19 13; raise; asks {13 0 0 6 0}; "},
		{0, call(api.Await, 5, 6, 7), "store 19 18; raise; asks {18 0 0 6 0}; "}, {0, call(api.Exit, 5, 6, 7), "store 19 19; raise; asks {19 0 0 0 0}; "},
		{0, call(api.Write, 1, 9, 4), "load 4; load 6; store 10 4; store 6 1; store 3 1; 0 [0 0 0 0]"}, {0, call(api.Read, 1, 0), "load 3; store 4 0; load 5; load 7; 0 [0 0 0 0]"}, {0, call(api.Write, 2, 0, 5), "load 11; store 11 1; store 12 5; store 11 2; 0 [0 0 0 0]"},
		{1, call(api.Try, 2, 0), "load 11; load 12; load 11; 0 [0 0 0 0]"}, {-1, call(api.Again, 2, 0), "load 11; load 12; load 11; 0 [0 0 0 0]"}, {1, call(api.Clear, 3, 0, 1), "and 13 4294967294; 0 [0 0 0 0]"}, {1, call(api.Get, 3, 0), "load 13; 0 [0 0 0 0]"},
		{0, call(api.Recv, 0, 9), "load 0; load 1; 7 [0 0 0 0]"},
	} {
		is(t, fmt.Sprint("New ", c.ctx, c.x), run(plan.Memory(some()), New(some(), c.ctx, c.x)), c.want)
	}
	for _, kind := range []int{api.Post, api.Yield, api.Sleep, api.Exit} {
		for _, woken := range []bool{true, false} {
			x := New(some(), 0, call(kind, 1, 3))
			run(plan.Memory(some()), x)
			is(t, "answered", told(x.Answer(task.Answer{Woken: woken, Bits: 5}), run(nil, x)), told(true, "0 [0 0 0 0]"))
		}
	}
	x := New(some(), 0, call(api.Await, 0, 3))
	run(plan.Memory(some()), x)
	is(t, "Await, woken", told(x.Answer(task.Answer{Woken: true, Bits: 5, Left: 2}), run(nil, x)), told(true, "0 [5 0 0 0]"))
	x = New(some(), 0, call(api.Await, 0, 3))
	run(plan.Memory(some()), x)
	is(t, "Await, not woken", told(x.Answer(task.Answer{Bits: 5}), run(nil, x)), told(true, "9 [0 0 0 0]"))
	is(t, "not valid", run(nil, New(api.Config{}, 0, call(api.Get, 0, 0))), "1 [0 0 0 0]")
}

func TestP3202Trying(t *testing.T) {
	m := plan.Memory(some())
	x := New(some(), 0, call(api.WaitAny, 3, 5, 1))
	is(t, "asks", run(m, x), "load 13; store 19 16; raise; asks {16 3 1 5 0}; ")
	is(t, "tries again", told(x.Answer(task.Answer{Woken: true, Left: 2}), run(m, x)), told(true, "load 13; store 19 16; raise; asks {16 3 1 2 0}; "))
	m.Store(13, 7)
	is(t, "succeeds", told(x.Answer(task.Answer{Woken: true, Left: 1}), run(m, x)), told(true, "load 13; 0 [7 0 0 0]"))
	x = New(some(), 0, call(api.WaitAll, 3, 0, 8))
	is(t, "no ticks", run(m, x), "load 13; 9 [0 0 0 0]")
	x = New(some(), 0, call(api.WaitAll, 3, 1, 8))
	run(m, x)
	is(t, "not woken", told(x.Answer(task.Answer{Left: 9}), run(m, x)), told(true, "9 [0 0 0 0]"))
	x = New(some(), 0, call(api.WaitAll, 3, 1, 8))
	run(m, x)
	is(t, "woken, no ticks left", told(x.Answer(task.Answer{Woken: true}), run(m, x)), told(true, "load 13; 9 [0 0 0 0]"))
	x = New(some(), 0, call(api.RecvWait, 0, api.Forever, 4))
	is(t, "forever", run(m, x), "load 0; load 1; store 19 15; raise; asks {15 0 0 4294967295 0}; ")
	x = New(some(), 0, call(api.SendWait, 0, 3, 4))
	is(t, "SendWait", run(m, x), "load 1; load 0; store 2 4; store 1 1; raise; 0 [0 0 0 0]")
	x = New(some(), 0, call(api.SendWait, 0, 3, 4))
	is(t, "SendWait, full", run(m, x), "load 1; load 0; store 19 14; raise; asks {14 0 0 3 0}; ")
	// Answered ahead of its Raise, the call continues behind that.
	m.Store(0, 1)
	x = New(some(), 0, call(api.RecvWait, 0, 3))
	for range 3 {
		a, _ := x.Act()
		got, _ := act.Do(m, nil, a)
		x.Take(got)
	}
	is(t, "answered early", told(x.Answer(task.Answer{}), run(m, x)), told(true, "raise; 9 [0 0 0 0]"))
}

func TestP3203Raising(t *testing.T) {
	for _, c := range []struct {
		x       api.Call
		first   string
		raising bool
	}{
		{call(api.Recv, 0, 0), "load 0; load 1; 7 [0 0 0 0]", false}, {call(api.Send, 0, 0, 4), "load 1; load 0; store 2 4; store 1 1; raise; 0 [0 0 0 0]", true}, {call(api.Send, 0, 0, 4), "load 1; load 0; 6 [0 0 0 0]", false},
		{call(api.Recv, 0, 0), "load 0; load 1; load 2; store 0 1; raise; 0 [4 0 0 0]", true}, {call(api.SendWait, 0, 0, 4), "load 1; load 0; store 2 4; store 1 2; raise; 0 [0 0 0 0]", true},
		{call(api.SendWait, 0, 0, 4), "load 1; load 0; 9 [0 0 0 0]", false}, {call(api.RecvWait, 0, 0, 4), "load 0; load 1; load 2; store 0 2; raise; 0 [4 0 0 0]", true}, {call(api.RecvWait, 0, 0, 4), "load 0; load 1; 9 [0 0 0 0]", false},
		{call(api.Set, 3, 0, 4), "or 13 4; raise; 0 [0 0 0 0]", true}, {call(api.WaitAny, 3, 0, 4), "load 13; 0 [4 0 0 0]", false}, {call(api.Clear, 3, 0, 4), "and 13 4294967291; 0 [4 0 0 0]", false},
	} {
		if c.x.Kind == api.Recv && !c.raising {
			memory = plan.Memory(some())
		}
		is(t, fmt.Sprint("raising ", c.x), run(memory, New(some(), 0, c.x)), c.first)
	}
	x := New(some(), 0, call(api.Set, 3, 0, 4))
	x.Take(1)
	_, early := x.Result()
	is(t, "no result ahead of the Raise", early, false)
}

// memory: that of the sequence of calls above.
var memory *cell.Memory

func TestP3204AsksAnswerTries(t *testing.T) {
	m := plan.Memory(some())
	asks := func(x *Call) string { return fmt.Sprint(x.Asks()) }
	x := New(some(), 0, call(api.RecvWait, 0, 3))
	none := "{0 0 0 0 0} false"
	is(t, "tries", told(asks(x), x.Answer(task.Answer{}), x.Tries()), told(none, false, 1))
	x.Take(0)
	x.Take(0)
	is(t, "ahead of the Store", told(asks(x), x.Answer(task.Answer{}), x.Tries()), told(none, false, 1))
	x.Take(0)
	is(t, "from the Store on", told(asks(x), x.Tries()), told("{15 0 0 3 0} true", 1))
	x.Take(0)
	is(t, "behind the Raise", told(asks(x), x.Answer(task.Answer{Woken: true, Left: 2}), asks(x), x.Answer(task.Answer{}), x.Tries()), told("{15 0 0 3 0} true", true, none, false, 2))
	run(m, x)
	is(t, "second try", told(asks(x), x.Tries()), told("{15 0 0 2 0} true", 2))
	x.Answer(task.Answer{})
	is(t, "over", told(asks(x), x.Tries(), x.Answer(task.Answer{})), told(none, 2, false))
	for _, c := range []struct {
		ctx   int
		x     api.Call
		tries int
	}{{0, call(api.Yield, 0, 0), 1}, {0, call(api.Post, 0, 0), 1}, {-1, call(api.Post, 0, 0), 0}, {-1, call(api.Tick, 0, 0), 0}, {0, call(api.Get, 9, 0), 0}, {-1, call(api.Exit, 0, 0), 0}, {0, call(api.Get, 3, 0), 1}, {0, call(api.Again, 2, 0), 1}} {
		x := New(some(), c.ctx, c.x)
		before := x.Tries()
		run(m, x)
		is(t, fmt.Sprint("Tries ", c.x), told(before, x.Tries()), told(c.tries, c.tries))
	}
	var nobody *Call
	for _, x := range []*Call{nobody, {}} {
		x.Take(1)
		a, ok := x.Act()
		res, is2 := x.Result()
		is(t, "none", told(a, ok, res, is2, asks(x), x.Answer(task.Answer{}), x.Tries()), told(api.Act{}, false, api.Result{}, false, none, false, 0))
	}
}

func TestP3205Laws(t *testing.T) {
	p, _ := plan.Of(some())
	seed := uint32(1)
	for kind := api.Send; kind <= api.Exit; kind++ {
		for _, ctx := range []int{0, -1} {
			for obj := range 4 {
				for range 30 {
					x := New(some(), ctx, call(kind, obj, 50, 1))
					n, tries := 0, 0
					for range 300 {
						if _, over := x.Result(); over {
							break
						}
						if _, more := x.Act(); !more {
							tries++
							if !x.Answer(task.Answer{Woken: seed>>9%4 > 0, Left: seed >> 12 % 9}) {
								break
							}
							continue
						}
						seed = seed*1664525 + 1013904223
						x.Take(seed >> 24 % 2 * (seed >> 28))
						n++
					}
					most := bound.Steps(kind, p.Places[obj]) - 1
					if plain := spec.Plain(kind); x.waits() || kind >= api.Yield || kind == api.Post && ctx == 0 {
						most = (tries + 1) * (bound.Acts(plain, p.Places[obj]) + 3)
					}
					is(t, fmt.Sprint("acts ", kind, ctx, obj), n <= most, true)
				}
			}
		}
	}
}
