package word

import (
	"fmt"
	"math"
	"testing"
)

const all = 1<<32 - 1

// is compares what is told of two values.
func is(t *testing.T, what string, got, want any) {
	t.Helper()
	if fmt.Sprint(got) != fmt.Sprint(want) {
		t.Errorf("%s: %v, not %v", what, got, want)
	}
}

func TestP201Bits(t *testing.T) {
	for i := range 32 {
		one := uint32(1) << i
		is(t, "Has", fmt.Sprint(Has(one, i), Has(all&^one, i)), "true false")
		is(t, "With", fmt.Sprint(With(0, i), With(all, i)), fmt.Sprint(one, uint32(all)))
		is(t, "Without", fmt.Sprint(Without(all, i), Without(0, i)), fmt.Sprint(all&^one, 0))
	}
	for _, i := range []int{-1, 32, 33, 64, math.MinInt, math.MaxInt} {
		is(t, "no bit", fmt.Sprint(Has(all, i), With(5, i), Without(5, i)), "false 5 5")
	}
}

func TestP202LowHighCountMask(t *testing.T) {
	is(t, "none", fmt.Sprint(Low(0), High(0), Count(0)), "-1 -1 0")
	is(t, "all", fmt.Sprint(Low(all), High(all), Count(all)), "0 31 32")
	is(t, "some", fmt.Sprint(Low(0b101000), High(0b101000), Count(0b101000)), "3 5 2")
	is(t, "last", fmt.Sprint(Low(1<<31), High(1<<31), Count(1<<31)), "31 31 1")
	is(t, "Mask", fmt.Sprint(Mask(math.MinInt), Mask(-1), Mask(0), Mask(1), Mask(5)), "0 0 0 1 31")
	is(t, "Mask", fmt.Sprint(Mask(31), Mask(32), Mask(33), Mask(math.MaxInt)), "2147483647 4294967295 4294967295 4294967295")
}

func TestP203ListOf(t *testing.T) {
	is(t, "List", List(0b100101), []int{0, 2, 5})
	is(t, "List none", List(0), []int{})
	is(t, "List all", len(List(all)), 32)
	is(t, "Of", Of(5, 0, 2, 0), 0b100101)
	is(t, "Of none", fmt.Sprint(Of(), Of(-1, 32, math.MinInt, math.MaxInt)), "0 0")
	is(t, "Of ends", Of(31, 32, 0), uint32(1<<31+1))
}

func TestP204AheadBeforeMore(t *testing.T) {
	is(t, "Ahead", fmt.Sprint(Ahead(1, all-1), Ahead(5, 5), Ahead(4, 5)), "3 0 4294967295")
	is(t, "Before", fmt.Sprint(Before(5, 5), Before(4, 5), Before(5, 4), Before(0, all), Before(all, 0)), "false true false false true")
	is(t, "Before half", fmt.Sprint(Before(1<<31, 0), Before(1<<31-1, 0)), "true false")
	is(t, "More", fmt.Sprint(More(0), More(all-1), More(all)), "1 4294967295 4294967295")
}

func TestP205Power(t *testing.T) {
	for i := range 32 {
		is(t, "Power", Power(1<<i), true)
	}
	for _, n := range []int{0, -1, -2, 3, 6, 1<<31 + 1, 1 << 32, 1 << 62, math.MinInt, math.MaxInt} {
		is(t, "no Power", Power(n), false)
	}
}

func TestP206Laws(t *testing.T) {
	w := uint32(1)
	for range 2000 {
		w = w*1664525 + 1013904223
		is(t, "Of of List", Of(List(w)...), w)
		is(t, "reached", fmt.Sprint(Before(w+w>>1, w), Before(w+1<<31-1, w)), "false false")
	}
}
