package tests

import (
	"math"
	"slices"
	"testing"

	"loop.example/harbinger/impl"
)

func TestP34EventsAreThoseOfTheSteps(t *testing.T) {
	r := newRandom()
	for k := range 20 {
		p := randomState(r, k%4)
		before := copied(p)
		s, events := copied(p), []impl.PlnEvent{}
		for n := range impl.CorMost + 1 {
			got, all := impl.PlnRun(p, n)
			if !sameState(got, s) || !slices.Equal(all, events) || !sameState(p, before) {
				t.Fatalf("PlnRun(%v, %d) = %v, %v, want %v, %v", p, n, got, all, s, events)
			}
			x, e := impl.PlnStep(s, false)
			s, events = x, append(events, e)
		}
	}
}

func TestP34RunsCompose(t *testing.T) {
	r := newRandom()
	for k := range 40 {
		p := randomState(r, k%4)
		n, m := r.IntN(100), r.IntN(101)
		whole, all := impl.PlnRun(p, n+m)
		half, first := impl.PlnRun(p, n)
		rest, second := impl.PlnRun(half, m)
		if !sameState(whole, rest) || !slices.Equal(all, slices.Concat(first, second)) {
			t.Fatalf("%d and %d instructions of %v", n, m, p)
		}
	}
}

func TestP34NoInstructions(t *testing.T) {
	p := scene(1, impl.CodInst{Kind: impl.CodWait})
	for _, n := range []int{0, -1, -200, math.MinInt} {
		s, events := impl.PlnRun(p, n)
		if !sameState(s, p) || len(events) != 0 {
			t.Fatalf("PlnRun(p, %d) = %v, %v", n, s, events)
		}
		before := copied(p)
		spoil(s)
		if !sameState(p, before) {
			t.Fatal("the result is the argument")
		}
	}
}

func TestP34InvalidArguments(t *testing.T) {
	p := scene(0, impl.CodInst{Kind: impl.CodWait})
	for _, n := range []int{impl.CorMost + 1, 65536, math.MaxInt} {
		if s, events := impl.PlnRun(p, n); !nothing(s) || len(events) != 0 {
			t.Fatalf("PlnRun(p, %d) = %v, %v", n, s, events)
		}
	}
	for _, p := range invalidStates() {
		for _, n := range []int{-1, 0, 1} {
			if s, events := impl.PlnRun(p, n); !nothing(s) || len(events) != 0 {
				t.Fatalf("PlnRun(%v, %d) = %v, %v", p, n, s, events)
			}
		}
	}
}
