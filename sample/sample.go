// Package sample makes valid configurations and choices, of many kinds, for the tests of the upper layers.
package sample

import (
	"bellrope/api"
	"bellrope/rule"
)

// source: numbers that look random, and depend only on where they begin.
type source struct{ state uint32 }

// below returns a number from 0 to n - 1.
func (s *source) below(n int) int {
	s.state = s.state*1664525 + 1013904223
	return int(s.state>>8) % n
}

// pick returns one of its arguments.
func (s *source) pick(l ...int) int { return l[s.below(len(l))] }

// Config returns a configuration that depends on a seed.
func Config(seed uint32) api.Config {
	s := &source{seed*2654435761 + 12345}
	c := api.Config{Tasks: make([]api.Task, 1+s.below(4)), Levels: make([]api.Level, s.below(5))}
	for i := range c.Tasks {
		c.Tasks[i].Prio, c.Tasks[i].Loop = s.below(4), s.below(5) > 0
	}
	for i := range c.Levels {
		c.Levels[i].Room = s.pick(1, 1, 2, 4)
	}
	if len(c.Levels) > 0 {
		c.Ticker = s.below(len(c.Levels) + 1)
	}
	for range s.below(7) {
		c.Objects = append(c.Objects, s.object(c))
	}
	for i := range c.Tasks {
		c.Tasks[i].Code = s.code(c, i, s.below(6))
	}
	for i := range c.Levels {
		c.Levels[i].Code = s.code(c, -(i + 1), s.below(4))
	}
	return c
}

// context returns a context of a configuration.
func (s *source) context(c api.Config) int {
	return s.below(len(c.Tasks)+len(c.Levels)) - len(c.Levels)
}

// object returns an object whose ends belong to contexts.
func (s *source) object(c api.Config) api.Object {
	o := api.Object{Kind: s.pick(api.Ring, api.Four, api.Lock, api.Flags), Init: api.Value{uint32(s.below(8)), uint32(s.below(8)), 3, 4}}
	if o.Kind == api.Flags {
		return o
	}
	o.Width, o.From = 1+s.below(3), s.context(c)
	switch o.Kind {
	case api.Ring:
		o.Cap, o.To = s.pick(1, 1, 2, 4), s.context(c)
	case api.Four:
		o.To = s.context(c)
	case api.Lock:
		o.Retry = s.below(4)
	}
	return o
}

// code returns the calls of a context, most of which the rules allow.
func (s *source) code(c api.Config, ctx, n int) []api.Call {
	var l []api.Call
	for range n {
		x := s.call(c)
		for try := 0; try < 40 && s.below(20) > 0 && rule.First(c, ctx, x) != api.OK; try++ {
			x = s.call(c)
		}
		l = append(l, x)
	}
	return l
}

// call returns any call.
func (s *source) call(c api.Config) api.Call {
	x := api.Call{Kind: s.below(api.Exit + 2), Obj: s.below(len(c.Objects) + 1), N: uint32(s.pick(0, 1, 1, 2, 3, 6, api.Forever))}
	if x.Kind == api.Exit && s.below(4) > 0 {
		x.Kind = api.Await
	}
	if x.Kind == api.Post {
		x.Obj = s.below(len(c.Tasks) + 1)
	}
	for w := range x.V {
		x.V[w] = uint32(s.below(8))
	}
	return x
}

// Choices returns n choices for so many levels: steps, and now and then the raising of a level.
func Choices(seed uint32, levels, n int) []int {
	s := &source{seed*40503 + 77}
	calm := s.pick(2, 6, 20, 60)
	l := make([]int, n)
	for i := range l {
		if levels > 0 && s.below(calm) == 0 {
			l[i] = 1 + s.below(levels)
		}
	}
	return l
}
