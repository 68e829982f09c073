package pend

import (
	"fmt"
	"math"
	"testing"
)

// is compares what is told of two values.
func is(t *testing.T, what string, got, want any) {
	t.Helper()
	if fmt.Sprint(got) != fmt.Sprint(want) {
		t.Errorf("%s: %v, not %v", what, got, want)
	}
}

// told returns several results as one text.
func told(l ...any) string { return fmt.Sprintln(l...) }

func TestP701RaiseTake(t *testing.T) {
	var p Pend
	is(t, "Raise", told(p.Raise(3), p.Raise(1), p.Raise(3), p.Raise(0), p.Raise(31)), told(true, true, false, true, true))
	is(t, "bits", p.Bits(), uint32(1<<31+1<<3+1<<1+1))
	is(t, "Take", told(p.Take(3), p.Take(3), p.Take(2), p.Take(0), p.Raise(3)), told(true, false, false, true, true))
	for _, k := range []int{-1, 32, math.MinInt, math.MaxInt} {
		before := fmt.Sprint(p)
		is(t, "no level", told(p.Raise(k), p.Take(k), fmt.Sprint(p)), told(false, false, before))
	}
	var none *Pend
	is(t, "nil", told(none.Raise(1), none.Take(1)), told(false, false))
}

func TestP702BitsTopAbove(t *testing.T) {
	var p Pend
	is(t, "none", told(p.Bits(), p.Top(), p.Above(-1), p.Above(-9)), told(0, -1, -1, -1))
	p.Raise(0)
	is(t, "0", told(p.Bits(), p.Top(), p.Above(-1), p.Above(0)), told(1, 0, 0, -1))
	p.Raise(5)
	p.Raise(3)
	is(t, "5", told(p.Bits(), p.Top(), p.Above(4), p.Above(5), p.Above(6), p.Above(math.MinInt)), told(41, 5, 5, -1, -1, 5))
	var none *Pend
	is(t, "nil", told(none.Bits(), none.Top(), none.Above(-5)), told(0, -1, -1))
}

func TestP703CountCopy(t *testing.T) {
	var p Pend
	for _, k := range []int{1, 2, 1, 1, 40, -1, 31} {
		p.Raise(k)
	}
	p.Take(1)
	p.Raise(1)
	p.Take(2)
	raised, merged := p.Count()
	is(t, "Count", told(raised, merged), told(4, 2))
	c := p.Copy()
	c.Raise(7)
	p.Take(31)
	is(t, "Copy", told(p.Bits(), c.Bits()), told(2, uint32(1<<31+1<<7+2)))
	raised, merged = c.Count()
	is(t, "Count of the copy", told(raised, merged), told(5, 2))
	var none *Pend
	raised, merged = none.Count()
	is(t, "nil", told(raised, merged, none.Copy() == nil), told(0, 0, true))
}

// TestCountKeeps: counting goes through the pending levels one by one, and they all stay pending.
func TestCountKeeps(t *testing.T) {
	var p Pend
	is(t, "none", told(p.Count()), told(0, 0))
	for k := range 32 {
		p.Raise(k)
		p.Raise(k)
		is(t, "so far", told(p.Count()), told(k+1, k+1))
	}
	is(t, "all", told(p.Bits(), p.Top()), told(uint32(1<<32-1), 31))
	for k := range 32 {
		p.Take(k)
		is(t, "taken ones count too", told(p.Count()), told(32, 32))
	}
	is(t, "none any more", told(p.Bits(), p.Top()), told(0, -1))
}

func TestP704Laws(t *testing.T) {
	for k := range 32 {
		var p Pend
		p.Raise(k)
		p.Raise(k)
		is(t, "taken once", told(p.Take(k), p.Take(k)), told(true, false))
	}
}
