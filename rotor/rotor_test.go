package rotor

import (
	"fmt"
	"math"
	"testing"

	"bellrope/gauss"
)

// is compares what is told of two values.
func is(t *testing.T, what string, got, want any) {
	t.Helper()
	if fmt.Sprint(got) != fmt.Sprint(want) {
		t.Errorf("%s: %v, not %v", what, got, want)
	}
}

// wheel returns a rotor.
func wheel(p, z, y, a, b, c, d int) Rotor {
	return Rotor{gauss.Num{Re: z, Im: y}, gauss.Num{Re: a, Im: b}, gauss.Num{Re: c, Im: d}, p}
}

// some: valid rotors.
func some() []Rotor {
	return []Rotor{wheel(3, 1, 0, 0, 1, 0, 0), wheel(2, 1, 1, 1, 1, 0, 1), wheel(1000, 999, 999, 999, 999, 999, 999), wheel(997, 3, 5, 7, 11, 13, 17), wheel(8, 1, 2, 2, 0, 1, 0), wheel(12, 5, 7, 3, 3, 4, 1)}
}

// wrong: rotors that are not valid.
func wrong() []Rotor {
	return []Rotor{{}, wheel(1, 0, 0, 0, 0, 0, 0), wheel(1001, 0, 0, 0, 0, 0, 0), wheel(5, 5, 0, 0, 0, 0, 0), wheel(5, 0, -1, 0, 0, 0, 0), wheel(5, 0, 0, 5, 0, 0, 0),
		wheel(5, 0, 0, 0, 5, 0, 0), wheel(5, 0, 0, 0, 0, -1, 0), wheel(5, 0, 0, 0, 0, 0, math.MaxInt), wheel(math.MinInt, 0, 0, 0, 0, 0, 0)}
}

// naive returns the Z after one step.
func naive(r Rotor) gauss.Num {
	m := func(n int) int { return (n%r.P + r.P) % r.P }
	return gauss.Num{Re: m(r.Z.Re*r.A.Re - r.Z.Im*r.A.Im + r.C.Re), Im: m(r.Z.Re*r.A.Im + r.Z.Im*r.A.Re + r.C.Im)}
}

func TestP501RightNext(t *testing.T) {
	for _, r := range some() {
		is(t, "Right", Right(r), true)
		for range 50 {
			want := r
			want.Z = naive(r)
			got, ok := Next(r)
			is(t, "Next", fmt.Sprint(got, ok), fmt.Sprint(want, true))
			r = got
		}
	}
	for _, r := range wrong() {
		got, ok := Next(r)
		is(t, "wrong", fmt.Sprint(Right(r), got, ok), fmt.Sprint(false, Rotor{}, false))
	}
}

func TestP502Skip(t *testing.T) {
	for _, r := range some() {
		want := r
		for n := range 70 {
			got, ok := Skip(r, n)
			is(t, "Skip", fmt.Sprint(got, ok), fmt.Sprint(want, true))
			want, _ = Next(want)
		}
		_, ok := Skip(r, -1)
		got, is2 := Skip(r, math.MinInt)
		is(t, "negative", fmt.Sprint(ok, got, is2), fmt.Sprint(false, Rotor{}, false))
		tail, loop, _ := Cycle(r)
		far, _ := Skip(r, math.MaxInt)
		near, _ := Skip(r, tail+(math.MaxInt-tail)%loop)
		is(t, "far", far, near)
	}
	for _, r := range wrong() {
		got, ok := Skip(r, 0)
		is(t, "wrong", fmt.Sprint(got, ok), fmt.Sprint(Rotor{}, false))
	}
}

func TestP503Take(t *testing.T) {
	for _, r := range some() {
		for _, c := range [][2]int{{0, 1}, {3, 1}, {31, 1000}, {31, 1}, {5, 7}} {
			levels, calm := c[0], c[1]
			l, after, ok := Take(r, 40, levels, calm)
			var want []int
			x := r
			for range 40 {
				x, _ = Next(x)
				k := (x.Z.Re*x.P + x.Z.Im) % (calm + levels)
				if k < levels {
					want = append(want, k+1)
				} else {
					want = append(want, 0)
				}
			}
			is(t, "Take", fmt.Sprint(l, after, ok), fmt.Sprint(want, x, true))
		}
		l, after, ok := Take(r, 0, 0, 1)
		is(t, "Take none", fmt.Sprint(l, after, ok), fmt.Sprint([]int{}, r, true))
		l, _, ok = Take(r, 1<<16, 31, 1000)
		is(t, "Take most", fmt.Sprint(len(l), ok), "65536 true")
		for _, c := range [][3]int{{-1, 1, 1}, {1<<16 + 1, 1, 1}, {1, -1, 1}, {1, 32, 1}, {1, 1, 0}, {1, 1, 1001}, {1, 1, math.MinInt}, {math.MaxInt, 1, 1}} {
			l, after, ok := Take(r, c[0], c[1], c[2])
			is(t, "out of range", fmt.Sprint(l, after, ok), fmt.Sprint([]int{}, Rotor{}, false))
		}
	}
	for _, r := range wrong() {
		l, after, ok := Take(r, 1, 1, 1)
		is(t, "wrong", fmt.Sprint(l, after, ok), fmt.Sprint([]int{}, Rotor{}, false))
	}
}

func TestP504Cycle(t *testing.T) {
	for _, r := range some() {
		first := map[gauss.Num]int{}
		n, x := 0, r
		for {
			at, seen := first[x.Z]
			if seen {
				tail, loop, ok := Cycle(r)
				is(t, "Cycle", fmt.Sprint(tail, loop, ok), fmt.Sprint(at, n-at, true))
				break
			}
			first[x.Z] = n
			n++
			x.Z = naive(x)
		}
	}
	tail, loop, ok := Cycle(wheel(8, 1, 2, 2, 0, 1, 0))
	is(t, "with a tail", fmt.Sprint(tail > 0, loop, ok), "true 1 true")
	for _, r := range wrong() {
		tail, loop, ok := Cycle(r)
		is(t, "wrong", fmt.Sprint(tail, loop, ok), "0 0 false")
	}
}

func TestP505Laws(t *testing.T) {
	for _, r := range some() {
		for _, n := range []int{0, 1, 5, 64, 1000} {
			a, _ := Skip(r, n)
			b, _ := Skip(a, 37)
			c, _ := Skip(r, n+37)
			is(t, "together", b, c)
		}
		tail, loop, _ := Cycle(r)
		a, _ := Skip(r, tail)
		b, _ := Skip(r, tail+loop)
		is(t, "cycle", a, b)
	}
}
