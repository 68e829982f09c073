package text

import (
	"fmt"
	"strings"
	"testing"

	"bellrope/api"
	"bellrope/sample"
)

// is compares what is told of two values.
func is(t *testing.T, what string, got, want any) {
	t.Helper()
	if fmt.Sprint(got) != fmt.Sprint(want) {
		t.Errorf("%s: %v, not %v", what, got, want)
	}
}

// told returns several results as one text.
func told(l ...any) string { return fmt.Sprintln(l...) }

// parse tells what Parse answers.
func parse(s string) string {
	c, l, n, f := Parse(s)
	return fmt.Sprint(c, l, n, int(f))
}

// fails tells where and why Parse fails.
func fails(s string) string {
	c, l, n, f := Parse(s)
	if len(c.Tasks)+len(c.Levels)+len(c.Objects)+len(l) > 0 {
		return "results beside a fault"
	}
	return fmt.Sprint(n, " ", int(f))
}

func TestP4401Print(t *testing.T) {
	choices := make([]int, 41)
	choices[20], choices[40] = 3, -7
	c := api.Config{Tasks: []api.Task{{Prio: 3, Loop: true, Code: []api.Call{{Kind: api.Yield}, {Kind: api.Send, V: api.Value{5}}}}, {Prio: -1}}, Levels: []api.Level{{Room: 2, Code: []api.Call{{Kind: api.Tick}}}, {Room: 4}}, Ticker: 1,
		Objects: []api.Object{{Kind: 1, Cap: 2, Width: 3, Retry: 4, From: -5, To: 6, Init: api.Value{7, 8, 9, 1<<32 - 1}}, {}}}
	zeros := strings.Repeat(" 0", 19)
	is(t, "Print", Print(c, choices), "object 1 2 3 4 -5 6 7 8 9 4294967295\nobject 0 0 0 0 0 0 0 0 0 0\nticker 1\ntask 3 1\nyield\nsend 0 5\ntask -1 0\nlevel 2\ntick\nlevel 4\nchoose 0"+zeros+"\nchoose 3"+zeros+"\nchoose -7\n")
	is(t, "least", told(Print(api.Config{}, nil), Print(api.Config{}, make([]int, 20))), told("ticker 0\n", "ticker 0\nchoose 0"+zeros+"\n"))
}

func TestP4402ParseHead(t *testing.T) {
	is(t, "example", parse("ticker 0\ntask 3 1\nyield"), fmt.Sprint(api.Config{Tasks: []api.Task{{Prio: 3, Loop: true, Code: []api.Call{{Kind: api.Yield}}}}}, []int{}, 0, 0))
	is(t, "nothing", told(parse(""), parse("\n # x\n")), told(fmt.Sprint(api.Config{}, []int{}, 0, 0), fmt.Sprint(api.Config{}, []int{}, 0, 0)))
	c, l, n, f := Parse("choose 1 2\nlevel 1\nobject 1 2 3 4 -2147483648 2147483647 7 8 9 4294967295\nget 1 # c\ntask 2 0\n\nticker -5\nyield\nchoose -2147483648\nlevel 8\ntick\nget")
	is(t, "calls belong to the closest", told(c.Objects, c.Ticker, c.Tasks, c.Levels, l, n, f), told("[{1 2 3 4 -2147483648 2147483647 [7 8 9 4294967295]}]", -5, []api.Task{{Prio: 2, Code: []api.Call{{Kind: api.Yield}}}},
		[]api.Level{{Room: 1, Code: []api.Call{{Kind: api.Get, Obj: 1}}}, {Room: 8, Code: []api.Call{{Kind: api.Tick}, {Kind: api.Get}}}}, []int{1, 2, -1 << 31}, 0, 0))
	for s, want := range map[string]string{
		"object 1 2 3 4 5 6 7 8 9": "1 3", "object 1 2 3 4 5 6 7 8 9 10 11": "1 3", "object": "1 3", "ticker": "1 3", "ticker 1 2": "1 3", "task 1": "1 3", "task 1 0 0": "1 3", "level": "1 3", "level 1 1": "1 3", "choose": "1 3", "\n\ntask": "3 3",
		"object 1 2 3 4 5 6 7 8 9 x": "1 3", "object x 2 3 4 5 6 7 8 9 -1": "1 3", "object 1 2 3 4 5 6 7 8 9 -1": "1 2", "object 1 2 3 4 5 6 7 8 9 4294967296": "1 2", "object 2147483648 2 3 4 5 6 7 8 9 x": "1 2", "object 1 2 3 4 5 -2147483649 7 8 9 0": "1 2",
		"ticker 2147483648": "1 2", "ticker 01": "1 3", "ticker 0\nticker 0": "2 5", "ticker 0\nticker x": "2 3", "ticker 0\nticker": "2 3", "ticker 0\nticker 2147483648": "2 2", "task 1 2": "1 2", "task 1 -1": "1 2", "task -2147483649 x": "1 2", "task x 5": "1 3",
		"level 2147483648": "1 2", "level 1000000000000000000": "1 3", "choose 1 x 2147483648": "1 3", "choose 1 2147483648 x": "1 2", "choose -2147483649": "1 2",
		"yield": "1 4", "nothing x": "1 4", "object 1 2 3 4 5 6 7 8 9 10\n\nyield": "3 4", "task 1 1\nnothing": "2 3", "task 1 1\nsend 0 -1": "2 2", "level 1\nsend 0 0 0 0 0 0 0": "2 3", "task 1 1\nsend x\nticker x": "2 3",
	} {
		is(t, "fails "+s, fails(s), want)
	}
	long := "ticker 0\n" + strings.Repeat("#", api.MaxText-9)
	is(t, "long", told(fails(long), fails(long+"x"), fails("x"+long)), told("0 0", "0 14", "0 14"))
	for _, w := range []string{"object", "ticker", "task", "level", "choose"} {
		is(t, "Head", Head(w), true)
	}
	for _, w := range []string{"", "Object", "yield", "tasks", "task "} {
		is(t, "no Head", Head(w), false)
	}
}

func TestP4403Laws(t *testing.T) {
	for seed := range uint32(200) {
		c := sample.Config(seed)
		choices := sample.Choices(seed, len(c.Levels), int(seed))
		is(t, "Parse of Print", parse(Print(c, choices)), fmt.Sprint(c, choices, 0, 0))
	}
	odd := api.Config{Tasks: []api.Task{{Prio: -1 << 31, Code: []api.Call{{Kind: 999999999999999999, Obj: -1 << 31}}}}, Levels: []api.Level{{Room: 1<<31 - 1}}, Objects: []api.Object{{Kind: -1, Init: api.Value{1<<32 - 1}}}, Ticker: -3}
	is(t, "any in range", parse(Print(odd, []int{-9, 1<<31 - 1})), fmt.Sprint(odd, []int{-9, 1<<31 - 1}, 0, 0))
}
