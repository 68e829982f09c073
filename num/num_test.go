package num

import (
	"fmt"
	"math"
	"strconv"
	"strings"
	"testing"

	"bellrope/api"
)

// is compares what is told of two values.
func is(t *testing.T, what string, got, want any) {
	t.Helper()
	if fmt.Sprint(got) != fmt.Sprint(want) {
		t.Errorf("%s: %v, not %v", what, got, want)
	}
}

func TestP101PrintParse(t *testing.T) {
	for _, n := range []int{0, 1, -1, 9, 10, -10, 123456789, math.MaxInt, math.MinInt} {
		is(t, "Print", Print(n), strconv.Itoa(n))
	}
	for _, c := range []struct {
		s           string
		least, most int
		n           int
		f           api.Fault
	}{
		{"0", 0, 0, 0, api.OK}, {"-5", -5, 5, -5, api.OK}, {"5", -5, 5, 5, api.OK},
		{"6", -5, 5, 0, api.Range}, {"-6", -5, 5, 0, api.Range}, {"1", 5, -5, 0, api.Range},
		{"", 0, 9, 0, api.Syntax}, {"-", 0, 9, 0, api.Syntax}, {"-07", -9, 9, 0, api.Syntax}, {"07", 0, 9, 0, api.Syntax},
		{"-0", -9, 9, 0, api.Syntax}, {"+1", 0, 9, 0, api.Syntax}, {"1 ", 0, 9, 0, api.Syntax}, {"1a", 0, 9, 0, api.Syntax},
		{"--1", -9, 9, 0, api.Syntax}, {"1-", -9, 9, 0, api.Syntax}, {"\xff", 0, 9, 0, api.Syntax}, {"00", 0, 9, 0, api.Syntax},
		{"999999999999999999", 0, math.MaxInt, 999999999999999999, api.OK},
		{"-999999999999999999", math.MinInt, 0, -999999999999999999, api.OK},
		{"1000000000000000000", 0, math.MaxInt, 0, api.Syntax},
		{"99999999999999999999999", 0, 9, 0, api.Syntax},
	} {
		n, f := Parse(c.s, c.least, c.most)
		is(t, "Parse "+c.s, fmt.Sprint(n, int(f)), fmt.Sprint(c.n, int(c.f)))
	}
}

func TestP102Word(t *testing.T) {
	for s, want := range map[string]string{
		"0": "0 0", "4294967295": "4294967295 0", "4294967296": "0 2", "-1": "0 2", "x": "0 3", "01": "0 3",
	} {
		w, f := Word(s)
		is(t, "Word "+s, fmt.Sprint(w, int(f)), want)
	}
}

func TestP103Pad(t *testing.T) {
	is(t, "wider", Pad(7, 3), "  7")
	is(t, "as wide", Pad(-12, 3), "-12")
	is(t, "narrower", Pad(1234, 3), "1234")
	is(t, "no width", Pad(0, math.MinInt), "0")
	is(t, "64", Pad(1, 64), strings.Repeat(" ", 63)+"1")
	is(t, "65", Pad(1, 65), strings.Repeat(" ", 63)+"1")
	is(t, "most", Pad(1, math.MaxInt), strings.Repeat(" ", 63)+"1")
}

func TestP104JoinSplit(t *testing.T) {
	is(t, "Join", Join([]int{1, -2, 3}, ", "), "1, -2, 3")
	is(t, "Join none", Join(nil, ","), "")
	is(t, "Join without", Join([]int{1, 2}, ""), "12")
	for _, c := range []struct{ s, by, want string }{
		{"1 2", " ", "[1 2] 0"}, {"", " ", "[] 0"}, {"", "", "[] 0"}, {"1", "", "[] 3"}, {"1,,2", ",", "[] 3"},
		{"1,2,", ",", "[] 3"}, {",1", ",", "[] 3"}, {"1,99,x", ",", "[] 2"}, {"1,x,99", ",", "[] 3"}, {"7", ",", "[7] 0"},
		{"1aa2aaa3", "aa", "[] 3"}, {"1aa2aa3", "aa", "[1 2 3] 0"}, {"10203", "0", "[1 2 3] 0"},
	} {
		l, f := Split(c.s, c.by, -9, 9)
		is(t, "Split "+c.s, fmt.Sprint(l, int(f)), c.want)
	}
}

func TestP105Laws(t *testing.T) {
	for _, n := range []int{0, 7, -7, 10, 99, 999999999999999999, -999999999999999999} {
		got, f := Parse(Print(n), math.MinInt, math.MaxInt)
		is(t, "Parse of Print", fmt.Sprint(got, int(f)), fmt.Sprint(n, 0))
	}
	for _, by := range []string{" ", ";", "ab", "+"} {
		for _, l := range [][]int{nil, {0}, {1, -2, 3}, {-9, -9, -9, 0}} {
			got, f := Split(Join(l, by), by, -9, 9)
			is(t, "Split of Join", fmt.Sprint(got, int(f)), fmt.Sprint(l, 0))
		}
	}
}
