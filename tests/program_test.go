package tests

import (
	"slices"
	"strconv"
	"testing"

	"loop.example/harbinger/impl"
)

// theEnd is the system call behind which a program is not run any more.
const theEnd = "sys 511"

// ended reports whether the events are those up to the end of a program.
func ended(events []impl.PlnEvent) bool {
	return len(events) > 0 && events[len(events)-1].Why == impl.WhySys+16*511
}

// sealed is a text that nothing can be executed behind: only instructions that wait for the head follow.
func sealed(lines ...string) []string {
	return append(slices.Clone(lines), slices.Repeat([]string{theEnd}, 14)...)
}

// finish runs a program to its end and has the machine then, and the events.
func finish(t *testing.T, s impl.CorState, p picker) (impl.PlnState, []impl.PlnEvent) {
	t.Helper()
	out := []impl.PlnEvent{}
	for n := range 1000 {
		x, events := ranCycle(t, s, impl.CorIn{Picks: p.picks(s, n)})
		s, out = x, append(out, events...)
		if ended(out) {
			return impl.CorAbs(s), out
		}
	}
	t.Fatalf("%s: no end in %+v", p.name, s)
	return impl.PlnState{}, nil
}

// everyOrder runs a program to its end with every selection of one ready entry a cycle, from the cycle on when it is all in flight, and checks the machine then.
func everyOrder(t *testing.T, s impl.CorState, check func(p impl.PlnState, events []impl.PlnEvent)) {
	t.Helper()
	ends := 0
	var run func(s impl.CorState, events []impl.PlnEvent)
	run = func(s impl.CorState, events []impl.PlnEvent) {
		for pick := range max(len(readyOnes(s)), 1) {
			x, more := ranCycle(t, s, impl.CorIn{Picks: []int{pick}})
			all := slices.Concat(events, more)
			if !ended(all) {
				run(x, all)
				continue
			}
			ends++
			check(impl.CorAbs(x), all)
		}
	}
	run(launched(t, s, 6), nil)
	if ends < 2 {
		t.Fatal("orders:", ends)
	}
}

// addressesIn are those of the instructions that retired or trapped.
func addressesIn(events []impl.PlnEvent) []int {
	out := []int{}
	for _, e := range events {
		out = append(out, e.Pc)
	}
	return out
}

// has fails the test unless the registers have these values, by their numbers.
func has(t *testing.T, p impl.PlnState, regs map[int]int) {
	t.Helper()
	for r, value := range regs {
		if p.Regs[r] != value {
			t.Fatalf("registers %v, want %v", p.Regs, regs)
		}
	}
}

func TestP93LoadsReceiveStores(t *testing.T) {
	regs := map[int]int{1: 60, 2: 7, 3: 59, 4: 1}
	for _, lines := range [][]string{
		{"save r1 r2 0", "load r5 r1 0"},
		{"save r1 r2 0", "load r5 r3 1"},
		// The data is late.
		{"mul r2 r2 r4", "mul r2 r2 r4", "save r1 r2 0", "load r5 r1 0"},
		// The address of the store is late.
		{"mul r1 r1 r4", "mul r1 r1 r4", "save r1 r2 0", "load r5 r3 1"},
		// The address of the load is late.
		{"mul r3 r3 r4", "mul r3 r3 r4", "save r1 r2 0", "load r5 r3 1"},
		// Each is late.
		{"mul r2 r2 r4", "mul r1 r1 r4", "mul r3 r3 r4", "save r1 r2 0", "load r5 r3 1"},
		// Another store is between them.
		{"mul r1 r1 r4", "save r1 r2 0", "save r1 r4 1", "load r5 r3 1"},
		{"mul r4 r4 r4", "save r1 r2 0", "save r3 r4 0", "load r5 r1 0"},
		// Other loads are about.
		{"load r6 r1 0", "mul r1 r1 r4", "save r1 r2 0", "load r6 r1 1", "load r5 r3 1"},
	} {
		s := coreIn(with(impl.PlnNew(assembled(t, sealed(lines...)...)), regs))
		everyOrder(t, s, func(p impl.PlnState, events []impl.PlnEvent) {
			has(t, p, map[int]int{5: 7})
			if p.Mem[60] != 7 {
				t.Fatalf("%q: %v", lines, p.Mem)
			}
		})
	}
}

// The value that is loaded is used, so that what was executed with a wrong one must be executed again.
func TestP93ValuesAreUsed(t *testing.T) {
	regs := map[int]int{1: 60, 2: 7, 3: 59, 4: 1}
	s := coreIn(with(impl.PlnNew(assembled(t, sealed("mul r1 r1 r4", "save r1 r2 0", "load r5 r3 1", "add r6 r5 r5", "save r6 r6 9")...)), regs))
	everyOrder(t, s, func(p impl.PlnState, events []impl.PlnEvent) {
		has(t, p, map[int]int{5: 7, 6: 14})
		if p.Mem[23] != 14 || p.Mem[9] == 14 {
			t.Fatalf("%v", p.Mem)
		}
	})
}

func TestP94TheLastStoreWins(t *testing.T) {
	regs := map[int]int{1: 60, 2: 7, 3: 59, 4: 1, 5: 8}
	for _, lines := range [][]string{
		{"save r1 r2 0", "save r1 r5 0", "load r6 r1 0"},
		{"save r1 r2 0", "save r3 r5 1", "load r6 r1 0"},
		{"mul r1 r1 r4", "save r1 r2 0", "save r3 r5 1", "load r6 r3 1"},
		{"mul r3 r3 r4", "save r1 r2 0", "save r3 r5 1", "load r6 r1 0"},
		{"mul r5 r5 r4", "save r1 r2 0", "save r1 r5 0", "load r6 r3 1"},
		{"mul r2 r2 r4", "save r1 r2 0", "save r1 r5 0", "load r6 r3 1"},
		{"save r1 r4 0", "save r1 r2 0", "save r1 r5 0", "load r6 r3 1"},
		{"save r1 r2 0", "load r7 r1 0", "save r1 r5 0", "load r6 r3 1"},
	} {
		s := coreIn(with(impl.PlnNew(assembled(t, sealed(lines...)...)), regs))
		everyOrder(t, s, func(p impl.PlnState, events []impl.PlnEvent) {
			has(t, p, map[int]int{6: 8})
			if p.Mem[60] != 8 {
				t.Fatalf("%q: %v", lines, p.Mem)
			}
		})
	}
}

func TestP95TheFallThroughPathHasNoEffect(t *testing.T) {
	regs := map[int]int{1: 60, 2: 7, 3: 7, 4: 1}
	for _, branch := range []string{"eq r0 r0 3", "eq r2 r3 3", "lt r0 r1 3", "lt r4 r1 3"} {
		for _, late := range []string{"add r0 r0 r0", "mul r3 r3 r4", "mul r4 r4 r4"} {
			// The path has the addresses 2 to 4.
			s := coreIn(with(impl.PlnNew(assembled(t, sealed(late, branch, "save r1 r2 0", "load r5 r1 0", "sys 1", "addi r2 r2 1")...)), regs))
			everyOrder(t, s, func(p impl.PlnState, events []impl.PlnEvent) {
				if !slices.Equal(addressesIn(events), []int{0, 1, 5, 6}) || p.Mem[60] != 0 {
					t.Fatalf("%s: %v, %v", branch, events, p)
				}
				has(t, p, map[int]int{2: 8, 5: 0})
			})
		}
	}
}

// The path's store is not visible in any cycle, either, even if the branch is executed late.
func TestP95StoresOfTheFallThroughPathAreNeverVisible(t *testing.T) {
	lines := sealed("mul r3 r3 r4", "mul r3 r3 r4", "eq r2 r3 2", "save r1 r2 0", "jump r0 -2")
	for _, p := range pickers() {
		s := coreIn(with(impl.PlnNew(assembled(t, lines...)), map[int]int{1: 60, 2: 7, 3: 7, 4: 1}))
		for n := range 40 {
			s, _ = ranCycle(t, s, impl.CorIn{Picks: p.picks(s, n)})
			if visible(s.Chc, 60) != 0 {
				t.Fatalf("%s: %+v", p.name, s)
			}
		}
	}
}

func TestP96SelfModifyingCode(t *testing.T) {
	fresh := assembled(t, "addi r3 r0 9")[0]
	for _, p := range pickers() {
		for at := 2; at < 19; at++ {
			lines := slices.Repeat([]string{"addi r4 r4 1"}, 20)
			lines[0], lines[1], lines[at] = "load r1 r0 30", "save r0 r1 "+strconv.Itoa(at), "addi r3 r0 1"
			words := append(assembled(t, sealed(lines...)...)[:30], fresh)
			end, events := finish(t, impl.CorNew(words), p)
			has(t, end, map[int]int{3: 9, 4: 17})
			if events[at].Pc != at || events[at].Word != fresh {
				t.Fatalf("%s: %v", p.name, events)
			}
		}
	}
}

// A loop that writes its own next instruction does so every time.
func TestP96SelfModifyingLoop(t *testing.T) {
	lines := []string{"load r1 r0 30", "save r0 r1 3", "addi r1 r1 1", "addi r3 r3 0", "save r0 r1 30", "lt r3 r2 -6", theEnd}
	words := append(assembled(t, lines...), make([]int, 30-len(lines))...)
	words = append(words, assembled(t, "addi r3 r3 1")...)
	for _, p := range pickers() {
		// The instruction adds 1, 2, 3 and 4.
		end, events := finish(t, coreIn(with(impl.PlnNew(words), map[int]int{2: 10})), p)
		has(t, end, map[int]int{3: 10})
		if len(events) != 25 {
			t.Fatalf("%s: %v", p.name, events)
		}
	}
}

func TestP97InstructionsBehindATrap(t *testing.T) {
	for line, why := range map[string]int{
		"word 65535":    impl.WhyCode,
		"load r1 r2 31": impl.WhyLoad,
		"save r2 r1 31": impl.WhySave,
		"swap r1 r2 r1": impl.WhySave,
		"sys 7":         impl.WhySys + 16*7,
	} {
		lines := []string{"addi r1 r0 3", "jump r0 14", "wait", "wait", "wait", "wait", "wait", "wait", "get r5 0", "get r6 1", "save r0 r6 30", theEnd, "wait", "wait", "wait", "wait", line, "addi r1 r0 9", "save r0 r1 31", "save r0 r1 0", "set r1 4", "jump r0 -5"}
		for _, p := range pickers() {
			s := coreIn(with(impl.PlnNew(assembled(t, lines...)), map[int]int{2: 256}))
			end, events := finish(t, s, p)
			if !slices.Equal(addressesIn(events), []int{0, 1, 16, 8, 9, 10, 11}) || events[2].Why != why {
				t.Fatalf("%s: %v", line, events)
			}
			has(t, end, map[int]int{1: 3, 5: 16, 6: why})
			if end.Mem[30] != why || end.Mem[31] != 0 || end.Ctl[impl.CtlWord] != 0 {
				t.Fatalf("%s: %v", line, end)
			}
		}
	}
}

func TestP98NestedCalls(t *testing.T) {
	lines := []string{
		"jump r7 one", theEnd,
		"one:", "addi r1 r1 1", "add r4 r7 r0", "jump r7 two", "addi r1 r1 2", "call r0 r4 0",
		"two:", "addi r2 r2 1", "add r5 r7 r0", "jump r7 three", "addi r2 r2 2", "call r0 r5 0",
		"three:", "addi r3 r3 5", "call r0 r7 0",
	}
	s := impl.CorNew(assembled(t, lines...))
	want := []int{0, 2, 3, 4, 7, 8, 9, 12, 13, 10, 11, 5, 6, 1}
	for _, p := range pickers() {
		end, events := finish(t, s, p)
		has(t, end, map[int]int{1: 3, 2: 3, 3: 5})
		if _, plain := impl.PlnRun(impl.CorAbs(s), len(want)); !slices.Equal(addressesIn(events), want) || !slices.Equal(events, plain) {
			t.Fatalf("%s: %v", p.name, events)
		}
	}
}

// More calls are nested than the return-address stack holds.
func TestP98DeepCalls(t *testing.T) {
	lines := []string{
		"lui r6 1", "jump r7 down", theEnd,
		"down:", "save r6 r7 0", "addi r6 r6 1", "addi r2 r2 1", "eq r1 r0 up", "addi r1 r1 -1", "jump r7 down",
		"up:", "addi r6 r6 -1", "load r7 r6 0", "addi r3 r3 1", "call r0 r7 0",
	}
	for n := range 8 {
		for _, p := range pickers() {
			end, _ := finish(t, coreIn(with(impl.PlnNew(assembled(t, lines...)), map[int]int{1: n})), p)
			has(t, end, map[int]int{1: 0, 2: n + 1, 3: n + 1, 6: 128})
		}
	}
}

func TestP99Loops(t *testing.T) {
	down := []string{"loop:", "eq r1 r0 end", "addi r2 r2 1", "addi r1 r1 -1", "jump r0 loop", "end:", theEnd}
	up := []string{"jump r0 check", "loop:", "addi r2 r2 1", "addi r3 r3 1", "check:", "lt r3 r1 loop", "addi r1 r0 0", theEnd}
	r := newRandom()
	for _, lines := range [][]string{down, up} {
		for n := range 24 {
			for _, p := range pickers() {
				s := coreIn(with(impl.PlnNew(assembled(t, lines...)), map[int]int{1: n}))
				if n%2 == 1 {
					s.Gue = randomGuesses(r)
				}
				end, events := finish(t, s, p)
				has(t, end, map[int]int{1: 0, 2: n})
				bodies := 0
				for _, e := range events {
					if e.Pc == 1 {
						bodies++
					}
				}
				if bodies != n {
					t.Fatalf("%s: %d of %d in %v", p.name, bodies, n, events)
				}
			}
		}
	}
}

func TestP100ChainOfInstructions(t *testing.T) {
	lines, want := []string{"addi r1 r0 3"}, []int{3}
	for k := range 31 {
		from, to := strconv.Itoa(k%7+1), strconv.Itoa((k+1)%7+1)
		lines = append(lines, "addi r"+to+" r"+from+" "+strconv.Itoa(k%5+1))
		want = append(want, want[k]+k%5+1)
	}
	for _, p := range pickers() {
		for idle := range 12 {
			s := launched(t, impl.CorNew(assembled(t, append(lines, theEnd)...)), idle)
			_, events := finish(t, s, p)
			if len(events) != 33 {
				t.Fatalf("%s: %v", p.name, events)
			}
			for k, value := range want {
				if e := events[k]; e.Pc != k || e.Val != value || e.D != k%7+1 {
					t.Fatalf("%s: %v, want %d", p.name, e, value)
				}
			}
		}
	}
}

// countingProgram counts to 20 in r1 in user mode, and its handler counts the interrupts in r6.
func countingProgram(t *testing.T) []int {
	t.Helper()
	lines := slices.Clone(userSetup)
	lines[8], lines[9], lines[10], lines[11] = "addi r6 r6 1", "back", "wait", "wait"
	words := assembled(t, append(lines, "addi r1 r0 0", "addi r3 r0 20", "addi r1 r1 1", "save r0 r1 31", "load r4 r0 31", "eq r4 r3 1", "jump r0 -5", theEnd)...)
	words = append(words, make([]int, impl.MemMany-len(words))...)
	for page := range impl.PagMany {
		words[userTable+page] = 32 + 16 + page
	}
	return words
}

func TestP101InterruptsAreTransparent(t *testing.T) {
	r := newRandom()
	words := countingProgram(t)
	taken := 0
	for _, often := range []int{1000, 60, 30, 15, 8} {
		for _, p := range pickers() {
			s, out := impl.CorNew(words), []impl.PlnEvent{}
			for n := 0; !ended(out); n++ {
				if n > 20000 {
					t.Fatalf("%s: no end in %+v", p.name, s)
				}
				in := impl.CorIn{Ring: r.IntN(often) == 0, Picks: p.picks(s, n)}
				x, events := ranCycle(t, s, in)
				s, out = x, append(out, events...)
			}
			rings := 0
			for _, e := range out {
				if e.Why == impl.WhyRing {
					rings++
				}
			}
			end := impl.CorAbs(s)
			has(t, end, map[int]int{1: 20, 6: rings})
			if end.Mem[31] != 20 {
				t.Fatalf("%s: %v", p.name, end)
			}
			taken += rings
		}
	}
	if taken < 100 {
		t.Fatal("interrupts:", taken)
	}
}

func TestP102ExternalWritesAreObserved(t *testing.T) {
	words := append(assembled(t, "load r1 r0 30", "eq r1 r0 -2", "addi r2 r0 1", "addi r3 r2 0"), assembled(t, sealed()...)...)
	fresh := assembled(t, "addi r2 r0 9")[0]
	for _, p := range pickers() {
		for first := range 14 {
			for gap := 1; gap < 10; gap++ {
				s, out := impl.CorNew(words), []impl.PlnEvent{}
				for n := 0; !ended(out); n++ {
					in := impl.CorIn{Picks: p.picks(s, n)}
					switch {
					case n == first:
						in.Lay, in.At, in.N = true, 2, fresh
					case n == first+gap:
						in.Lay, in.At, in.N = true, 30, 5
					}
					x, events := ranCycle(t, s, in)
					if n < first+gap && slices.Contains(addressesIn(events), 2) {
						t.Fatalf("%s: %v", p.name, events)
					}
					s, out = x, append(out, events...)
					if n > 400 {
						t.Fatalf("%s: no end in %+v", p.name, s)
					}
				}
				has(t, impl.CorAbs(s), map[int]int{1: 5, 2: 9, 3: 9})
			}
		}
	}
}
