package bound

import (
	"fmt"
	"math"
	"testing"

	"bellrope/api"
	"bellrope/duel"
	"bellrope/site"
)

// is compares what is told of two values.
func is(t *testing.T, what string, got, want any) {
	t.Helper()
	if fmt.Sprint(got) != fmt.Sprint(want) {
		t.Errorf("%s: %v, not %v", what, got, want)
	}
}

// told returns several results as one text.
func told(l ...any) string { return fmt.Sprintln(l...) }

// places: one of each kind of object.
func places(width, retry int) []site.Place {
	return []site.Place{{Kind: api.Ring, Cap: 2, Width: width}, {Kind: api.Four, Width: width}, {Kind: api.Lock, Width: width, Retry: retry}, {Kind: api.Flags}}
}

func TestP1701Acts(t *testing.T) {
	for w := 1; w <= 4; w++ {
		for r := range 9 {
			l := places(w, r)
			for kind := -1; kind <= 21; kind++ {
				want := []int{0, 0, 0, 0}
				switch kind {
				case api.Send, api.Recv:
					want[0] = w + 3
				case api.Write:
					want[1], want[2] = w+4, w+3
				case api.Read:
					want[1] = w + 3
				case api.Try:
					want[2] = w + 2
				case api.Again:
					want[2] = (w + 2) * (r + 1)
				case api.Set, api.Clear, api.Get, api.WaitAny, api.WaitAll:
					want[3] = 1
				}
				is(t, "Acts", told(Acts(kind, l[0]), Acts(kind, l[1]), Acts(kind, l[2]), Acts(kind, l[3])), told(want[0], want[1], want[2], want[3]))
			}
		}
	}
	for _, p := range []site.Place{{}, {Kind: api.Ring, Cap: 3, Width: 1}, {Kind: api.Four}, {Kind: api.Lock, Width: 5}, {Kind: api.Lock, Width: 1, Retry: 9}, {Kind: api.Flags, Width: 1}} {
		for kind := range 20 {
			is(t, "invalid", Acts(kind, p), 0)
		}
	}
}

func TestP1702StepsWakes(t *testing.T) {
	l := places(2, 3)
	for kind, want := range map[int]string{
		api.Send: "7 1 1 1", api.Recv: "7 1 1 1", api.Write: "1 7 6 1", api.Read: "1 6 1 1", api.Try: "1 1 5 1", api.Again: "1 1 17 1", api.Set: "1 1 1 3", api.Clear: "1 1 1 2", api.Get: "1 1 1 2",
		api.WaitAny: "1 1 1 2", api.WaitAll: "1 1 1 2", api.Post: "6 6 6 6", api.Tick: "4 4 4 4", api.SendWait: "1 1 1 1", api.Exit: "1 1 1 1", 0: "1 1 1 1", -7: "1 1 1 1", 99: "1 1 1 1",
	} {
		is(t, fmt.Sprint("Steps ", kind), fmt.Sprint(Steps(kind, l[0]), Steps(kind, l[1]), Steps(kind, l[2]), Steps(kind, l[3])), want)
		wakes := kind == api.Send || kind == api.Recv || kind == api.Set || kind == api.Post || kind == api.Tick
		is(t, "Wakes", Wakes(kind), wakes)
	}
	is(t, "any place", told(Steps(api.Post, site.Place{}), Steps(api.Tick, site.Place{}), Steps(api.Send, site.Place{})), told(6, 4, 1))
}

func TestP1703GapFits(t *testing.T) {
	is(t, "Gap", told(Gap(1, 1, 1), Gap(0, 0, 0), Gap(2, 3, 4), C), told(480, 80, 2400, 80))
	is(t, "clamped", told(Gap(-1, math.MinInt, -9), Gap(math.MaxInt, math.MaxInt, math.MaxInt), Gap(1<<16+1, 1<<16, 1<<31+1)), told(80, 80*(1+1<<17)*(1+1<<31), 80*(1+1<<17)*(1+1<<31)))
	p := places(2, 3)[0]
	is(t, "Fits", told(Fits(api.Send, p, 0), Fits(api.Send, p, 1), Fits(api.Send, p, 7), Fits(api.Send, p, 8), Fits(api.Send, p, math.MinInt), Fits(0, p, 1), Fits(0, p, 2)), told(false, true, true, false, false, true, false))
}

func TestP1704Laws(t *testing.T) {
	x := uint32(3)
	// Words that lead furthest are among these: zeros, ever greater even words, and any words.
	words := []func(n uint32) uint32{func(uint32) uint32 { return 0 }, func(n uint32) uint32 { return 2 * n }}
	for range 50 {
		words = append(words, func(uint32) uint32 {
			x = x*1664525 + 1013904223
			return x >> 24 % 2 * (x >> 28)
		})
	}
	for w := 1; w <= 4; w++ {
		l := places(w, w)
		for kind := api.Send; kind <= api.WaitAll; kind++ {
			for obj := range l {
				most := 0
				for _, word := range words {
					r := duel.Routine(l, api.Call{Kind: kind, Obj: obj})
					n := 0
					for _, more := r.Act(); more; _, more = r.Act() {
						r.Take(word(uint32(n)))
						n++
					}
					most = max(most, n)
				}
				is(t, fmt.Sprint("most acts ", kind, obj), most, Acts(kind, l[obj]))
			}
		}
	}
}
