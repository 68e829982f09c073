package rule

import (
	"fmt"
	"math"
	"testing"

	"bellrope/api"
)

// is compares what is told of two values.
func is(t *testing.T, what string, got, want any) {
	t.Helper()
	if fmt.Sprint(got) != fmt.Sprint(want) {
		t.Errorf("%s: %v, not %v", what, got, want)
	}
}

// told returns several results as one text.
func told(l ...any) string { return fmt.Sprintln(l...) }

// some: a configuration with something of everything.
func some() api.Config {
	return api.Config{Tasks: make([]api.Task, 2), Levels: []api.Level{{Room: 1}, {Room: 4}}, Ticker: 2, Objects: []api.Object{{Kind: api.Ring, Cap: 1, Width: 1, From: -1, To: 1},
		{Kind: api.Four, Width: 1, From: 1, To: -2}, {Kind: api.Lock, Width: 2, From: -2}, {Kind: api.Flags}}}
}

// call returns a call.
func call(kind, obj int, v uint32) api.Call {
	return api.Call{Kind: kind, Obj: obj, V: api.Value{v}}
}

func TestP3101First(t *testing.T) {
	for _, c := range []struct {
		ctx  int
		x    api.Call
		want api.Fault
	}{
		{2, call(api.Get, 3, 0), api.BadArg}, {-3, call(api.Yield, 0, 0), api.BadArg}, {api.Drain, call(api.Get, 3, 0), api.BadArg}, {math.MinInt, call(api.Get, 3, 0), api.BadArg}, {math.MaxInt, call(api.Get, 3, 0), api.BadArg},
		{-1, call(api.Yield, 0, 0), api.Context}, {-2, call(api.WaitAny, 99, 0), api.Context}, {-1, call(api.SendWait, 0, 0), api.Context}, {-1, call(api.Exit, 0, 0), api.Context},
		{0, call(0, 0, 0), api.BadArg}, {0, call(20, 0, 0), api.BadArg}, {-1, call(-1, 0, 0), api.BadArg}, {0, call(math.MinInt, 0, 0), api.BadArg},
		{0, call(api.Post, 1, 65535), api.OK}, {-1, call(api.Post, 0, 0), api.OK}, {0, call(api.Post, 2, 65536), api.Missing}, {0, call(api.Post, -1, 0), api.Missing}, {0, call(api.Post, 1, 65536), api.Range},
		{-2, call(api.Tick, 77, 0), api.OK}, {-1, call(api.Tick, 0, 0), api.Owner}, {0, call(api.Tick, 0, 0), api.Owner},
		{0, call(api.Yield, 99, 99), api.OK}, {1, call(api.Sleep, -9, 0), api.OK}, {1, call(api.Await, 99, 0), api.OK}, {1, call(api.Exit, 99, 0), api.OK},
		{-1, call(api.Send, 4, 0), api.Missing}, {-1, call(api.Send, -1, 0), api.Missing}, {-1, call(api.Get, math.MaxInt, 0), api.Missing}, {-1, call(api.Send, 1, 0), api.Kind}, {0, call(api.Read, 2, 0), api.Kind}, {0, call(api.Try, 1, 0), api.Kind},
		{0, call(api.Write, 3, 0), api.Kind}, {0, call(api.WaitAll, 2, 0), api.Kind}, {0, call(api.Again, 0, 0), api.Kind},
		{-1, call(api.Send, 0, 0), api.OK}, {0, call(api.Send, 0, 0), api.Owner}, {-2, call(api.Send, 0, 0), api.Owner}, {1, call(api.SendWait, 0, 0), api.Owner}, {1, call(api.Recv, 0, 0), api.OK}, {1, call(api.RecvWait, 0, 0), api.OK},
		{0, call(api.RecvWait, 0, 0), api.Owner}, {-1, call(api.Recv, 0, 0), api.Owner}, {1, call(api.Write, 1, 0), api.OK}, {0, call(api.Write, 1, 0), api.Owner}, {-2, call(api.Read, 1, 0), api.OK}, {1, call(api.Read, 1, 0), api.Owner},
		{-2, call(api.Write, 2, 0), api.OK}, {0, call(api.Write, 2, 0), api.Owner}, {0, call(api.Try, 2, 0), api.OK}, {-1, call(api.Again, 2, 0), api.OK}, {0, call(api.Set, 3, 0), api.OK}, {-1, call(api.Clear, 3, 0), api.OK}, {1, call(api.WaitAny, 3, 0), api.OK},
	} {
		is(t, fmt.Sprint("First ", c.ctx, c.x), First(some(), c.ctx, c.x), c.want)
	}
	wrong := some()
	wrong.Objects[3].To = 1
	is(t, "not valid", told(First(wrong, 0, call(api.Yield, 0, 0)), First(wrong, -1, call(api.Yield, 0, 0)), First(api.Config{}, 0, api.Call{})), told(1, 1, 1))
	quiet := some()
	quiet.Ticker = 0
	is(t, "no ticker", told(First(quiet, 0, call(api.Tick, 0, 0)), First(quiet, -2, call(api.Tick, 0, 0))), told(api.Owner, api.Owner))
}

func TestP3102HandlerBlocksNeeds(t *testing.T) {
	is(t, "Handler", told(Handler(-1), Handler(0), Handler(5), Handler(-99), Handler(math.MinInt), Handler(math.MaxInt)), told(true, false, false, true, true, false))
	blocks, needs := "", ""
	for kind := -1; kind <= 21; kind++ {
		if Blocks(kind) {
			blocks += fmt.Sprint(kind, " ")
		}
		needs += fmt.Sprint(Needs(kind))
	}
	is(t, "Blocks", blocks, "12 13 14 15 16 17 18 19 ")
	is(t, "Needs", needs, "[][][1][1][2 3][2][3][3][4][4][4][][][][][1][1][4][4][][][][]")
	Needs(api.Write)[0] = 9
	is(t, "Needs is new", Needs(api.Write), []int{2, 3})
}

func TestP3103Laws(t *testing.T) {
	for kind := range 20 {
		for _, obj := range []int{0, 1, 99, -1} {
			if Blocks(kind) {
				is(t, "Context first", First(some(), -1, call(kind, obj, 99999)), api.Context)
			}
		}
	}
}
