package code

import (
	"fmt"
	"math"
	"strings"
	"testing"

	"bellrope/api"
	"bellrope/rows"
)

// is compares what is told of two values.
func is(t *testing.T, what string, got, want any) {
	t.Helper()
	if fmt.Sprint(got) != fmt.Sprint(want) {
		t.Errorf("%s: %v, not %v", what, got, want)
	}
}

// told returns several results as one text.
func told(l ...any) string { return fmt.Sprintln(l...) }

// parse tells what Parse answers for a text of one row.
func parse(s string) string {
	x, f := Parse(rows.Row{N: 1, Words: strings.Fields(s)})
	return fmt.Sprint(x, int(f))
}

func TestP3301WordKind(t *testing.T) {
	all := strings.Fields("send recv write read try again set clear get post tick yield sleep sendwait recvwait waitany waitall await exit")
	for i, w := range all {
		kind, ok := Kind(w)
		is(t, w, told(Word(i+1), kind, ok), told(w, i+1, true))
	}
	for kind, w := range map[int]string{0: "k0", 20: "k20", -7: "k-7", 999999999999999999: "k999999999999999999", -999999999999999999: "k-999999999999999999"} {
		got, ok := Kind(w)
		is(t, w, told(Word(kind), got, ok), told(w, kind, true))
	}
	is(t, "great", told(Word(math.MaxInt), Word(math.MinInt)), told("k9223372036854775807", "k-9223372036854775808"))
	for _, w := range []string{"", "k", "k1", "k19", "k00", "k-0", "k+20", "k020", "20", "Send", "send ", "sends", "k20x", "k1000000000000000000", "k9223372036854775807", "x20", "kk20"} {
		kind, ok := Kind(w)
		is(t, "no kind "+w, told(kind, ok), told(0, false))
	}
}

func TestP3302PrintParse(t *testing.T) {
	for _, c := range []struct {
		x    api.Call
		text string
	}{
		{api.Call{Kind: api.Send, V: api.Value{5}}, "send 0 5"}, {api.Call{Kind: api.Yield}, "yield"}, {api.Call{Kind: api.Get, Obj: -3}, "get -3"}, {api.Call{Kind: 0, N: 7}, "k0 0 0 0 0 0 7"},
		{api.Call{Kind: api.WaitAny, Obj: 1, V: api.Value{0, 2}}, "waitany 1 0 2"}, {api.Call{Kind: -5, Obj: 1<<31 - 1, V: api.Value{1, 2, 3, math.MaxUint32}, N: math.MaxUint32}, "k-5 2147483647 1 2 3 4294967295 4294967295"},
		{api.Call{Kind: api.Get, Obj: -1 << 31}, "get -2147483648"},
	} {
		is(t, "Print", Print(c.x), c.text)
		is(t, "Parse "+c.text, parse(c.text), fmt.Sprint(c.x, 0))
	}
	is(t, "explicit zeros", told(parse("send 0 5 0 0 0 0"), parse("yield 0")), told("{1 0 [5 0 0 0] 0} 0", "{12 0 [0 0 0 0] 0} 0"))
	for s, f := range map[string]int{"": 4, "send 0 0 0 0 0 0 0": 3, "nothing 0 0 0 0 0 0 0": 3, "nothing": 3, "nothing 4294967296": 3, "k1": 3, "send x": 3, "send 00": 3, "send 0 -1": 2, "send 2147483648": 2, "send -2147483649": 2,
		"send 0 4294967296": 2, "send 0 0 0 0 0 4294967296": 2, "send 2147483648 x": 2, "send x 4294967296": 3, "send 1000000000000000000": 3, "send 0 5 +1": 3} {
		is(t, "no call "+s, parse(s), fmt.Sprint(api.Call{}, f))
	}
}

func TestP3303AllRead(t *testing.T) {
	l := []api.Call{{Kind: api.Send, V: api.Value{5}}, {Kind: api.Exit}}
	is(t, "All", told(All(l), All(nil)), told("send 0 5\nexit\n", ""))
	read := func(s string) string {
		l, n, f := Read(rows.All(s))
		return fmt.Sprint(l, n, int(f))
	}
	is(t, "Read", told(read("send 0 5\n\nexit"), read("")), told(fmt.Sprint(l, 0, 0), "[] 0 0"))
	is(t, "wrong", told(read("\nsend 0 5\nexit x\nsend -1 -1"), read("send 0 -1\nx"), read("get\n\n\nx")), told("[] 3 3", "[] 1 2", "[] 4 3"))
	_, n, f := Read([]rows.Row{{N: 7}})
	is(t, "row without words", told(n, int(f)), told(7, 4))
}

func TestP3304Laws(t *testing.T) {
	x := uint32(3)
	for range 500 {
		x = x*1664525 + 1013904223
		c := api.Call{Kind: int(x>>8%40) - 10, Obj: int(int32(x*7)) * int(x>>5%2), V: api.Value{x * 11 * (x >> 6 % 2), x * 13 * (x >> 7 % 2), x >> 31, x >> 30 * x}, N: x >> 29 * (x >> 9 % 2)}
		is(t, "Parse of Print", parse(Print(c)), fmt.Sprint(c, 0))
	}
	for _, kind := range []int{999999999999999999, -999999999999999999} {
		is(t, "great kinds", parse(Print(api.Call{Kind: kind})), fmt.Sprint(api.Call{Kind: kind}, 0))
	}
}
