package sample

import (
	"fmt"
	"testing"

	"bellrope/api"
	"bellrope/conf"
)

func TestSamples(t *testing.T) {
	kinds := map[int]int{}
	for seed := range uint32(300) {
		c := Config(seed)
		if conf.Check(c) != (api.Bad{}) {
			t.Fatal(seed, conf.Check(c))
		}
		if fmt.Sprint(c) != fmt.Sprint(Config(seed)) {
			t.Error("not the same again", seed)
		}
		for _, x := range c.Tasks {
			for _, k := range x.Code {
				kinds[k.Kind]++
			}
		}
		for _, k := range Choices(seed, len(c.Levels), 200) {
			if k < 0 || k > len(c.Levels) {
				t.Error("no choice", k)
			}
		}
	}
	for kind := api.Send; kind <= api.Exit; kind++ {
		if kinds[kind] == 0 {
			t.Error("no call of kind", kind)
		}
	}
}
