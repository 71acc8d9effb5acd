package tests

import (
	"testing"

	"loop.example/g00712/impl"
)

func TestGarbage(t *testing.T) {
	cases := map[string]int{
		"":                                0,
		"linked 1 2 freed 3":              0,
		"held 0:1 freed 1":                0,
		"waiting 1":                       1,
		"held 0:1 4:1 waiting 1":          1,
		"linked 1 waiting 4 3 2 freed 5":  3,
		"waiting " + sprint(upTo(60)):     60,
		"linked 1 held 0:1 0:1 waiting 2": -1,
		"linked 1 held 5:1 waiting 2":     -1,
		"waiting 2":                       -1,
		"waiting 1 1":                     -1,
		"linked 2 1 waiting 3":            -1,
		"waiting " + sprint(upTo(61)):     -1,
	}
	for text, want := range cases {
		if got := impl.Garbage(bench(text)); got != want {
			t.Error("garbage", text, got)
		}
	}
	for _, b := range goodBenches() {
		before := copiedBench(b)
		if got := impl.Garbage(b); got != len(b.Waiting) || !sameBench(b, before) {
			t.Error("garbage", b, got)
		}
	}
	for _, b := range badBenches() {
		before := copiedBench(b)
		if got := impl.Garbage(b); got != -1 || !sameBench(b, before) {
			t.Error("garbage", before, got)
		}
	}
}
