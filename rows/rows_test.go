package rows

import (
	"fmt"
	"math"
	"testing"
)

// is compares what is told of two values.
func is(t *testing.T, what string, got, want any) {
	t.Helper()
	if fmt.Sprint(got) != fmt.Sprint(want) {
		t.Errorf("%s: %v, not %v", what, got, want)
	}
}

func TestP301All(t *testing.T) {
	for _, c := range []struct{ text, want string }{
		{"", "[]"}, {"\n\n", "[]"}, {"a b\n# c\n", "[{1 [a b]}]"}, {"a b\n# c", "[{1 [a b]}]"},
		{"\n \t a\t\tb  c \n\nd", "[{2 [a b c]} {4 [d]}]"}, {"a#b c\nd #e\n#", "[{1 [a]} {2 [d]}]"},
		{"a\r\n\u00a0", "[{1 [a\r]} {2 [\u00a0]}]"}, {"\xffx\xfe y", "[{1 [\xffx\xfe y]}]"}, {"é日 本\n", "[{1 [é日 本]}]"},
	} {
		is(t, "All "+c.text, All(c.text), c.want)
	}
	is(t, "number of words", len(All("a  b\tc")[0].Words), 3)
}

func TestP302PrintPlain(t *testing.T) {
	is(t, "Print", Print([]Row{{7, []string{"a", "b"}}, {0, nil}, {1, []string{"c"}}}), "a b\nc\n")
	is(t, "Print none", Print(nil), "")
	for _, w := range []string{"a", "a-b", "é", "\r", "\u00a0", "\xff"} {
		is(t, "Plain", Plain(w), true)
	}
	for _, w := range []string{"", " ", "a b", "a\t", "\na", "a#", "#"} {
		is(t, "not Plain", Plain(w), false)
	}
}

func TestP303TakeNumbers(t *testing.T) {
	r := Row{1, []string{"x", "5", "-3", "07", "4294967295", "4294967296"}}
	for _, c := range []struct {
		at   int
		want string
	}{{0, "0 3"}, {1, "5 0"}, {2, "-3 0"}, {3, "0 3"}, {4, "0 2"}, {6, "0 4"}, {-1, "0 4"}, {math.MaxInt, "0 4"}, {math.MinInt, "0 4"}} {
		n, f := Take(r, c.at, -9, 9)
		is(t, fmt.Sprint("Take ", c.at), fmt.Sprint(n, int(f)), c.want)
	}
	for _, c := range []struct {
		words []string
		from  int
		want  string
	}{
		{[]string{"1", "2"}, 0, "[1 2] 0"}, {[]string{"x", "2"}, 1, "[2] 0"}, {[]string{"x", "2"}, 0, "[] 3"},
		{[]string{"x", "2"}, -5, "[] 3"}, {[]string{"1", "2"}, math.MinInt, "[1 2] 0"}, {[]string{"1"}, 1, "[] 0"}, {[]string{"1"}, math.MaxInt, "[] 0"},
		{[]string{"1", "4294967296", "x"}, 0, "[] 2"}, {[]string{"1", "x", "4294967296"}, 0, "[] 3"}, {nil, 0, "[] 0"},
	} {
		l, f := Numbers(Row{1, c.words}, c.from)
		is(t, "Numbers", fmt.Sprint(l, int(f)), c.want)
	}
}

func TestP304Parts(t *testing.T) {
	for _, c := range []struct {
		text  string
		heads []string
		want  string
	}{
		{"b 1\nx\ny\na\nz", []string{"a", "b"}, "[[{5 [z]}] [{2 [x]} {3 [y]}]] 0 0"},
		{"", []string{"a", "b"}, "[[] []] 0 0"}, {"", nil, "[] 0 0"},
		{"\nx\na", []string{"a"}, "[] 2 4"}, {"x", nil, "[] 1 4"},
		{"a\nx\nb\na\nc", []string{"a", "b"}, "[] 4 5"},
		{"a\nx", []string{"a", "b", "a"}, "[[{2 [x]}] [] []] 0 0"},
		{"b", []string{"a", "b", "b"}, "[[] [] []] 0 0"},
	} {
		l, n, f := Parts(All(c.text), c.heads...)
		is(t, "Parts "+c.text, fmt.Sprint(l, n, int(f)), c.want)
	}
	_, n, f := Parts([]Row{{9, nil}}, "")
	is(t, "Parts of a row without words", fmt.Sprint(n, int(f)), "9 4")
	l := All("a\nx")
	parts, _, _ := Parts(l, "a")
	parts[0][0].Words[0] = "changed"
	is(t, "rows are new", l[1].Words[0], "x")
}

func TestP305Laws(t *testing.T) {
	l := []Row{{1, []string{"a", "b-c", "é"}}, {2, []string{"1"}}, {3, []string{"x", "y"}}}
	is(t, "All of Print", All(Print(l)), l)
}
