package gauss

import (
	"fmt"
	"math"
	"testing"
)

const most = 1 << 20

// is compares what is told of two values.
func is(t *testing.T, what string, got, want any) {
	t.Helper()
	if fmt.Sprint(got) != fmt.Sprint(want) {
		t.Errorf("%s: %v, not %v", what, got, want)
	}
}

// told returns several results as one text.
func told(l ...any) string { return fmt.Sprintln(l...) }

// two returns the text of a number and whether it is one.
func two(a Num, ok bool) string { return fmt.Sprint(a, ok) }

// wrong: numbers that are not valid.
func wrong() []Num {
	return []Num{{most + 1, 0}, {0, -most - 1}, {math.MinInt, 0}, {0, math.MaxInt}}
}

// some: valid numbers of all sizes.
func some() []Num {
	l := []Num{{0, 0}, {1, 0}, {0, -1}, {most, most}, {-most, most}, {-most, 0}, {0, -most}, {most, -most + 1}}
	x := 1
	for range 40 {
		x = (x*1103515245 + 12345) & math.MaxInt32
		size := 1 << (x >> 8 % 20)
		if size < 2 {
			size = most
		}
		a := x>>3%(2*most) - most
		x = (x*1103515245 + 12345) & math.MaxInt32
		l = append(l, Num{a % size, (x>>3%(2*most) - most) % size})
	}
	return l
}

func TestP401Right(t *testing.T) {
	for _, a := range some() {
		is(t, "Right", Right(a), true)
	}
	for _, a := range wrong() {
		is(t, "wrong", Right(a), false)
	}
}

func TestP402Arithmetic(t *testing.T) {
	is(t, "Add", two(Add(Num{1, 2}, Num{-3, 5})), "{-2 7} true")
	is(t, "Add to the most", two(Add(Num{most - 1, 0}, Num{1, -most})), fmt.Sprint(Num{most, -most}, true))
	is(t, "Add beyond", two(Add(Num{most, 0}, Num{1, 0})), "{0 0} false")
	is(t, "Add brings nothing back", told(two(Add(Num{most + 1, 0}, Num{-5, 0})), two(Add(Num{0, -5}, Num{0, most + 1})), two(Sum(Num{most + 1, 0}, Num{-5, 0}))), told("{0 0} false", "{0 0} false", "{0 0} false"))
	is(t, "Mul", two(Mul(Num{1, 2}, Num{3, -4})), "{11 2} true")
	is(t, "Mul beyond", two(Mul(Num{1024, 1}, Num{1024, -1})), "{0 0} false")
	is(t, "Mul far beyond", two(Mul(Num{most, most}, Num{most, -most})), "{0 0} false")
	for k, want := range []string{"{2 3} true", "{-3 2} true", "{-2 -3} true", "{3 -2} true"} {
		is(t, "Turn", two(Turn(Num{2, 3}, k)), want)
		is(t, "Turn back", two(Turn(Num{2, 3}, k-4)), want)
		is(t, "Turn often", two(Turn(Num{2, 3}, k+math.MinInt)), want)
	}
	is(t, "Turn most", two(Turn(Num{2, 3}, math.MaxInt)), "{3 -2} true")
	is(t, "Conj", two(Conj(Num{2, 3})), "{2 -3} true")
	is(t, "Sum", told(Sum()), told(Num{}, true))
	is(t, "Sum", two(Sum(Num{1, 1}, Num{2, -5}, Num{0, 1})), "{3 -3} true")
	is(t, "Sum beyond on the way", two(Sum(Num{most, 0}, Num{1, 0}, Num{-5, 0})), "{0 0} false")
	is(t, "Sum, other order", two(Sum(Num{most, 0}, Num{-5, 0}, Num{1, 0})), fmt.Sprint(Num{most - 4, 0}, true))
	for _, a := range wrong() {
		is(t, "wrong", two(Add(a, Num{})), "{0 0} false")
		is(t, "wrong", two(Add(Num{}, a)), "{0 0} false")
		is(t, "wrong", two(Mul(a, Num{})), "{0 0} false")
		is(t, "wrong", two(Mul(Num{}, a)), "{0 0} false")
		is(t, "wrong", two(Turn(a, 0)), "{0 0} false")
		is(t, "wrong", two(Conj(a)), "{0 0} false")
		is(t, "wrong", two(Sum(a)), "{0 0} false")
	}
}

func TestP403Norm(t *testing.T) {
	is(t, "Norm", told(Norm(Num{}), Norm(Num{3, -4}), Norm(Num{most, -most})), told(0, 25, 1<<41))
	for _, a := range wrong() {
		is(t, "wrong", Norm(a), -1)
	}
}

func TestP404Div(t *testing.T) {
	for _, c := range []struct {
		a, b Num
		want string
	}{
		{Num{5, 3}, Num{2, 1}, "{3 0} {-1 0} true"}, {Num{1, 0}, Num{2, 0}, "{1 0} {-1 0} true"}, {Num{-1, -3}, Num{2, 0}, "{0 -1} {-1 -1} true"},
		{Num{7, 7}, Num{0, 1}, "{7 -7} {0 0} true"}, {Num{5, 0}, Num{}, "{0 0} {0 0} false"}, {Num{}, Num{3, 1}, "{0 0} {0 0} true"},
		{Num{most, most}, Num{1, 0}, "{1048576 1048576} {0 0} true"}, {Num{3, 5}, Num{most, 1}, "{0 0} {3 5} true"},
	} {
		q, r, ok := Div(c.a, c.b)
		is(t, fmt.Sprint("Div ", c.a, c.b), fmt.Sprint(q, r, ok), c.want)
	}
	for _, a := range wrong() {
		q, r, ok := Div(a, Num{1, 0})
		p, s, is2 := Div(Num{1, 0}, a)
		is(t, "wrong", told(q, r, ok, p, s, is2), told(Num{}, Num{}, false, Num{}, Num{}, false))
	}
}

func TestP405Gcd(t *testing.T) {
	for _, c := range []struct {
		a, b Num
		want string
	}{
		{Num{4, 2}, Num{0, 5}, "{2 1} true"}, {Num{}, Num{}, "{0 0} true"}, {Num{}, Num{0, -7}, "{7 0} true"}, {Num{-3, 0}, Num{}, "{3 0} true"},
		{Num{0, 5}, Num{}, "{5 0} true"}, {Num{6, 0}, Num{9, 0}, "{3 0} true"}, {Num{1, 1}, Num{1, -1}, "{1 1} true"}, {Num{most, most}, Num{}, "{1048576 1048576} true"},
	} {
		is(t, fmt.Sprint("Gcd ", c.a, c.b), two(Gcd(c.a, c.b)), c.want)
	}
	for _, a := range wrong() {
		is(t, "wrong", two(Gcd(a, Num{1, 0})), "{0 0} false")
		is(t, "wrong", two(Gcd(Num{1, 0}, a)), "{0 0} false")
	}
}

func TestP406Laws(t *testing.T) {
	for _, a := range some() {
		for _, b := range some() {
			if p, ok := Mul(a, b); ok {
				is(t, "norm of a product", Norm(p), Norm(a)*Norm(b))
			}
			g, ok := Gcd(a, b)
			is(t, "Gcd", ok, true)
			if b == (Num{}) {
				continue
			}
			q, r, ok := Div(a, b)
			back := Num{q.Re*b.Re - q.Im*b.Im + r.Re, q.Re*b.Im + q.Im*b.Re + r.Im}
			is(t, "Div", told(ok, back, 2*Norm(r) <= Norm(b)), told(true, a, true))
			_, r, _ = Div(a, g)
			_, s, _ := Div(b, g)
			is(t, "divides", told(r, s, g.Re > 0 && g.Im >= 0), told(Num{}, Num{}, true))
		}
	}
	for _, d := range some() {
		a, ok := Mul(d, Num{7, 2})
		b, is2 := Mul(d, Num{3, -5})
		if ok && is2 && d != (Num{}) {
			g, _ := Gcd(a, b)
			_, r, _ := Div(g, d)
			is(t, "divisible by a common divisor", r, Num{})
		}
	}
}
