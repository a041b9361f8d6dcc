package tests

import (
	"math"
	"math/rand/v2"
	"slices"
	"testing"

	"loop.example/harbinger/impl"
)

// guessPlaces are the addresses at which the slot or the next address changes over, and one in the middle.
var guessPlaces = []int{0, 1, 7, 8, 30, 32767, 32768, 65528, 65534, 65535}

// guessWords are one word for every case that a predictor tells apart, among the others a word that is no instruction.
var guessWords = map[string]int{
	"jump":           impl.CodWord(impl.CodInst{Kind: impl.CodJump, N: 9}),
	"jump that puts": impl.CodWord(impl.CodInst{Kind: impl.CodJump, D: 7, N: 9}),
	"return":         impl.CodWord(impl.CodInst{Kind: impl.CodCall, A: 7}),
	"call that puts": impl.CodWord(impl.CodInst{Kind: impl.CodCall, D: 7, A: 7}),
	"branch":         impl.CodWord(impl.CodInst{Kind: impl.CodEq, A: 1, B: 2, N: 5}),
	"addition":       impl.CodWord(impl.CodInst{Kind: impl.CodAddi, D: 1, A: 1, N: 1}),
	"none":           65535,
}

// notSures are confidences that no slot has.
var notSures = []int{math.MinInt, -2, -1, 4, 5, math.MaxInt}

// sameGuesses reports whether two predictors are equal, where a nil slice and an empty one are the same.
func sameGuesses(a, b impl.GueState) bool {
	return slices.Equal(a.Slots, b.Slots) && slices.Equal(a.Calls, b.Calls)
}

// copiedGuesses shares no memory with the predictor.
func copiedGuesses(g impl.GueState) impl.GueState {
	return impl.GueState{Slots: slices.Clone(g.Slots), Calls: slices.Clone(g.Calls)}
}

// guesses is an empty predictor with these calls, the oldest one first.
func guesses(calls ...int) impl.GueState {
	return impl.GueState{Slots: make([]impl.GueSlot, impl.GueMany), Calls: slices.Clone(calls)}
}

// keeping is the predictor with that slot in its place.
func keeping(g impl.GueState, slot impl.GueSlot) impl.GueState {
	out := copiedGuesses(g)
	out.Slots[slot.Pc%8] = slot
	return out
}

// fullGuesses has every slot and every call, all different.
func fullGuesses() impl.GueState {
	g := guesses(1001, 1002, 1003, 1004)
	for k := range impl.GueMany {
		g.Slots[k] = impl.GueSlot{Used: true, Pc: 800 + k, To: 2000 + k, Sure: k % 4}
	}
	return g
}

// someWord is any word, but often one of those at the edges or next to another one.
func someWord(r *rand.Rand, near int) int {
	switch r.IntN(3) {
	case 0:
		return reduced(near + r.IntN(19) - 9)
	case 1:
		return guessPlaces[r.IntN(len(guessPlaces))]
	}
	return r.IntN(65536)
}

// randomGuesses is a valid predictor.
func randomGuesses(r *rand.Rand) impl.GueState {
	g := guesses()
	for k := range g.Slots {
		if r.IntN(4) > 0 {
			pc := someWord(r, 100)/8*8 + k
			g.Slots[k] = impl.GueSlot{Used: true, Pc: pc, To: someWord(r, pc), Sure: r.IntN(4)}
		}
	}
	for range r.IntN(5) {
		g.Calls = append(g.Calls, someWord(r, 100))
	}
	return g
}

// placeFor is an address that some slot of the predictor stores, or one that shares a slot, or any.
func placeFor(r *rand.Rand, g impl.GueState) int {
	return reduced(g.Slots[r.IntN(8)].Pc + 8*r.IntN(2)*r.IntN(3))
}

// goesTo checks a prediction, and that the predictor is not written to.
func goesTo(t *testing.T, g impl.GueState, pc int, w int, want int) {
	t.Helper()
	before := copiedGuesses(g)
	if got := impl.GueNext(g, pc, w); got != want {
		t.Fatalf("GueNext(%v, %d, %d) = %d, want %d", g, pc, w, got, want)
	}
	if !sameGuesses(g, before) {
		t.Fatalf("GueNext(%v, %d, %d) changes its argument", before, pc, w)
	}
}

// fetches checks a predictor after a fetch, and that the one before is not written to.
func fetches(t *testing.T, g impl.GueState, pc int, w int, want impl.GueState) impl.GueState {
	t.Helper()
	before := copiedGuesses(g)
	got := impl.GueSeen(g, pc, w)
	if !sameGuesses(got, want) {
		t.Fatalf("GueSeen(%v, %d, %d) = %v, want %v", g, pc, w, got, want)
	}
	if !sameGuesses(g, before) {
		t.Fatalf("GueSeen(%v, %d, %d) changes its argument", before, pc, w)
	}
	return got
}

// learns checks a predictor that is told an outcome, and that the one before is not written to.
func learns(t *testing.T, g impl.GueState, pc int, to int, want impl.GueState) impl.GueState {
	t.Helper()
	before := copiedGuesses(g)
	got := impl.GueLearn(g, pc, to)
	if !sameGuesses(got, want) {
		t.Fatalf("GueLearn(%v, %d, %d) = %v, want %v", g, pc, to, got, want)
	}
	if !sameGuesses(g, before) {
		t.Fatalf("GueLearn(%v, %d, %d) changes its argument", before, pc, to)
	}
	return got
}

// invalidSlots are slots that may not stand at that index.
func invalidSlots(index int) []impl.GueSlot {
	out := []impl.GueSlot{}
	for _, n := range []int{math.MinInt, -1, 1, 8, 800 + index, 65535, 65536} {
		out = append(out, impl.GueSlot{Pc: n}, impl.GueSlot{To: n}, impl.GueSlot{Sure: n})
	}
	good := impl.GueSlot{Used: true, Pc: 800 + index, To: 2000, Sure: 2}
	out = append(out, impl.GueSlot{Pc: good.Pc, To: good.To, Sure: good.Sure})
	for other := range impl.GueMany {
		if other != index {
			out = append(out, impl.GueSlot{Used: true, Pc: 800 + other, To: 2000, Sure: 2})
		}
	}
	for _, n := range notWords {
		out = append(out, impl.GueSlot{Used: true, Pc: good.Pc, To: n, Sure: 2}, impl.GueSlot{Used: true, Pc: n, To: 2000, Sure: 2})
	}
	for _, pc := range []int{index - 8, index - 65536, 65536 + index} {
		out = append(out, impl.GueSlot{Used: true, Pc: pc, To: 2000, Sure: 2})
	}
	for _, sure := range notSures {
		out = append(out, impl.GueSlot{Used: true, Pc: good.Pc, To: good.To, Sure: sure})
	}
	return out
}

// invalidGuesses are predictors with one thing wrong.
func invalidGuesses() []impl.GueState {
	full := fullGuesses()
	more := append(slices.Clone(full.Slots), impl.GueSlot{})
	out := []impl.GueState{
		{},
		{Calls: []int{1}},
		{Slots: []impl.GueSlot{}},
		{Slots: full.Slots[:1]},
		{Slots: full.Slots[:7]},
		{Slots: full.Slots[1:]},
		{Slots: more},
		{Slots: append(slices.Clone(full.Slots), full.Slots...), Calls: full.Calls},
		{Slots: impl.GueNew().Slots[:7]},
		{Slots: make([]impl.GueSlot, 9)},
		guesses(1, 2, 3, 4, 5),
		guesses(0, 0, 0, 0, 0),
		guesses(make([]int, 100)...),
	}
	for _, g := range []impl.GueState{guesses(), full} {
		for k := range g.Slots {
			for _, slot := range invalidSlots(k) {
				bad := copiedGuesses(g)
				bad.Slots[k] = slot
				out = append(out, bad)
			}
		}
	}
	for k := range full.Calls {
		for _, n := range notWords {
			bad := copiedGuesses(full)
			bad.Calls[k] = n
			out = append(out, bad, guesses(bad.Calls[k]), guesses(bad.Calls[:k+1]...))
		}
	}
	return out
}

func TestP35NewIsValidAndEmpty(t *testing.T) {
	g := impl.GueNew()
	if !sameGuesses(g, guesses()) || !impl.GueOk(g) {
		t.Fatalf("GueNew() = %v", g)
	}
}

func TestP35NewSharesNoMemory(t *testing.T) {
	a, b := impl.GueNew(), impl.GueNew()
	spoilGuesses(a)
	if !sameGuesses(b, guesses()) || !sameGuesses(impl.GueNew(), guesses()) {
		t.Fatal("two new predictors share memory")
	}
}

func TestP35ValidPredictors(t *testing.T) {
	good := []impl.GueState{guesses(), fullGuesses(), guesses(0), guesses(65535, 0, 65535, 0)}
	for many := range impl.GueDeep + 1 {
		good = append(good, guesses(fullGuesses().Calls[:many]...))
	}
	for _, pc := range guessPlaces {
		for _, to := range []int{0, pc, reduced(pc + 1), 65535} {
			for sure := range 4 {
				slot := impl.GueSlot{Used: true, Pc: pc, To: to, Sure: sure}
				good = append(good, keeping(guesses(), slot), keeping(fullGuesses(), slot))
			}
		}
	}
	r := newRandom()
	for range 500 {
		good = append(good, randomGuesses(r))
	}
	for _, g := range good {
		before := copiedGuesses(g)
		if !impl.GueOk(g) || !sameGuesses(g, before) {
			t.Fatalf("GueOk(%v) is false or changes its argument", before)
		}
	}
}

func TestP35OneSlotLessOrTooManyCalls(t *testing.T) {
	r := newRandom()
	for range 200 {
		g := randomGuesses(r)
		short, long := copiedGuesses(g), copiedGuesses(g)
		short.Slots = short.Slots[:7]
		for len(long.Calls) <= impl.GueDeep {
			long.Calls = append(long.Calls, r.IntN(65536))
		}
		if !impl.GueOk(g) || impl.GueOk(short) || impl.GueOk(long) {
			t.Fatalf("%v: %v, %v and %v", g, impl.GueOk(g), impl.GueOk(short), impl.GueOk(long))
		}
	}
}

func TestP35InvalidPredictors(t *testing.T) {
	for _, g := range invalidGuesses() {
		if impl.GueOk(g) {
			t.Fatalf("GueOk(%v) is true", g)
		}
	}
}

func TestP36EmptyPredictorAtEveryWord(t *testing.T) {
	jumps := map[int]int{}
	for c, w := range everyInstruction() {
		if c.Kind == impl.CodJump {
			jumps[w] = c.N
		}
	}
	g := impl.GueNew()
	for _, pc := range guessPlaces {
		for w := range impl.WrdTop {
			goesTo(t, g, pc, w, reduced(pc+1+jumps[w]))
		}
	}
}

func TestP36JumpTargetsWrapAround(t *testing.T) {
	for _, c := range []struct{ pc, n, want int }{
		{65535, 0, 0},
		{65535, -1, 65535},
		{65535, 255, 255},
		{65535, -256, 65280},
		{65279, 255, 65535},
		{65280, 255, 0},
		{0, 0, 1},
		{0, -1, 0},
		{0, -2, 65535},
		{0, -256, 65281},
		{255, -256, 0},
		{254, -256, 65535},
		{0, 255, 256},
	} {
		for d := range impl.RegMany {
			w := impl.CodWord(impl.CodInst{Kind: impl.CodJump, D: d, N: c.n})
			goesTo(t, impl.GueNew(), c.pc, w, c.want)
			// Neither the stack nor the slot of the jump has a say.
			slot := impl.GueSlot{Used: true, Pc: c.pc, To: 4321, Sure: 3}
			goesTo(t, keeping(fullGuesses(), slot), c.pc, w, c.want)
		}
	}
}

func TestP36ReturnsGoToTheTopOfTheStack(t *testing.T) {
	for _, pc := range guessPlaces {
		for _, n := range []int{-32, -1, 0, 1, 31} {
			for a := range impl.RegMany {
				w := impl.CodWord(impl.CodInst{Kind: impl.CodCall, A: a, N: n})
				sure := keeping(guesses(), impl.GueSlot{Used: true, Pc: pc, To: 4321, Sure: 3})
				goesTo(t, guesses(), pc, w, reduced(pc+1))
				goesTo(t, sure, pc, w, 4321)
				for many := 1; many <= impl.GueDeep; many++ {
					calls := []int{1001, 1002, 1003, 1004}[:many]
					goesTo(t, guesses(calls...), pc, w, 1000+many)
					sure.Calls = calls
					goesTo(t, sure, pc, w, 1000+many)
				}
			}
		}
	}
	for _, top := range []int{0, 65535} {
		goesTo(t, guesses(7, top), 30, guessWords["return"], top)
	}
}

func TestP36CallsThatPutAreNoReturns(t *testing.T) {
	for d := 1; d < impl.RegMany; d++ {
		for _, n := range []int{-32, 0, 31} {
			w := impl.CodWord(impl.CodInst{Kind: impl.CodCall, D: d, A: 8 - d, N: n})
			for _, pc := range guessPlaces {
				goesTo(t, guesses(), pc, w, reduced(pc+1))
				goesTo(t, guesses(1001, 1002, 1003, 1004), pc, w, reduced(pc+1))
				sure := keeping(guesses(1001), impl.GueSlot{Used: true, Pc: pc, To: 4321, Sure: 2})
				goesTo(t, sure, pc, w, 4321)
			}
		}
	}
}

func TestP36SlotsPredictFromSure2On(t *testing.T) {
	for _, name := range []string{"branch", "addition", "call that puts", "none"} {
		for _, pc := range guessPlaces {
			for _, to := range []int{0, pc, reduced(pc + 1), 4321, 65535} {
				for sure, want := range []int{reduced(pc + 1), reduced(pc + 1), to, to} {
					slot := impl.GueSlot{Used: true, Pc: pc, To: to, Sure: sure}
					goesTo(t, keeping(guesses(), slot), pc, guessWords[name], want)
					goesTo(t, keeping(fullGuesses(), slot), pc, guessWords[name], want)
				}
			}
		}
	}
}

func TestP36SlotsOfOtherAddressesPredictNothing(t *testing.T) {
	for _, pc := range guessPlaces {
		for _, gap := range []int{8, 16, 256, 32768, 65536 - 8} {
			slot := impl.GueSlot{Used: true, Pc: reduced(pc + gap), To: 4321, Sure: 3}
			for _, name := range []string{"branch", "addition", "return", "call that puts", "none"} {
				goesTo(t, keeping(guesses(), slot), pc, guessWords[name], reduced(pc+1))
			}
		}
	}
	// An unused slot has the address 0, but does not store it.
	goesTo(t, guesses(), 0, guessWords["branch"], 1)
}

func TestP36PredictionsOfAnyPredictor(t *testing.T) {
	r := newRandom()
	for range 20000 {
		g := randomGuesses(r)
		pc := placeFor(r, g)
		slot := g.Slots[pc%8]
		want := reduced(pc + 1)
		if slot.Used && slot.Pc == pc && slot.Sure >= 2 {
			want = slot.To
		}
		goesTo(t, g, pc, guessWords["branch"], want)
		goesTo(t, g, pc, guessWords["none"], want)
		goesTo(t, g, pc, guessWords["call that puts"], want)
		goesTo(t, g, pc, guessWords["jump"], reduced(pc+10))
		if len(g.Calls) > 0 {
			want = g.Calls[len(g.Calls)-1]
		}
		goesTo(t, g, pc, guessWords["return"], want)
	}
}

func TestP36InvalidArguments(t *testing.T) {
	for _, w := range guessWords {
		for _, bad := range invalidGuesses() {
			goesTo(t, bad, 30, w, -1)
		}
		for _, n := range notWords {
			goesTo(t, fullGuesses(), n, w, -1)
			goesTo(t, guesses(), n, w, -1)
			goesTo(t, guesses(), n, n, -1)
		}
	}
	for _, n := range notWords {
		goesTo(t, fullGuesses(), 30, n, -1)
		goesTo(t, guesses(), 65535, n, -1)
	}
}

func TestP37EveryWordWithEveryStack(t *testing.T) {
	known := map[int]impl.CodInst{}
	for c, w := range everyInstruction() {
		known[w] = c
	}
	for many := range impl.GueDeep + 1 {
		g := fullGuesses()
		g.Calls = g.Calls[:many]
		pushed, popped := copiedGuesses(g), copiedGuesses(g)
		pushed.Calls = append(pushed.Calls, 31)
		pushed.Calls = pushed.Calls[max(0, len(pushed.Calls)-4):]
		popped.Calls = popped.Calls[:max(0, many-1)]
		for w := range impl.WrdTop {
			want := g
			switch c := known[w]; {
			case c.Kind == impl.CodJump && c.D > 0:
				want = pushed
			case c.Kind == impl.CodCall && c.D == 0:
				want = popped
			}
			fetches(t, g, 30, w, want)
		}
	}
}

func TestP37PushesTheNextAddress(t *testing.T) {
	for _, pc := range guessPlaces {
		for _, n := range []int{-256, -1, 0, 255} {
			for d := 1; d < impl.RegMany; d++ {
				w := impl.CodWord(impl.CodInst{Kind: impl.CodJump, D: d, N: n})
				fetches(t, guesses(), pc, w, guesses(reduced(pc+1)))
				fetches(t, guesses(5), pc, w, guesses(5, reduced(pc+1)))
			}
			w := impl.CodWord(impl.CodInst{Kind: impl.CodJump, N: n})
			fetches(t, guesses(), pc, w, guesses())
			fetches(t, guesses(5), pc, w, guesses(5))
		}
	}
}

func TestP37TheOldestCallIsForgotten(t *testing.T) {
	g := impl.GueNew()
	for _, want := range [][]int{{11}, {11, 21}, {11, 21, 31}, {11, 21, 31, 41}, {21, 31, 41, 51}, {31, 41, 51, 61}} {
		g = fetches(t, g, want[len(want)-1]-1, guessWords["jump that puts"], guesses(want...))
		if !impl.GueOk(g) {
			t.Fatalf("%v is invalid", g)
		}
	}
	for _, want := range [][]int{{31, 41, 51}, {31, 41}, {31}, {}, {}} {
		g = fetches(t, g, 99, guessWords["return"], guesses(want...))
	}
}

func TestP37CallsComeBack(t *testing.T) {
	r := newRandom()
	for range 500 {
		g := randomGuesses(r)
		stack := slices.Clone(g.Calls)
		for range 30 {
			pc := someWord(r, 100)
			if r.IntN(2) == 0 {
				g = impl.GueSeen(g, pc, guessWords["jump that puts"])
				stack = append(stack, reduced(pc+1))
				stack = stack[max(0, len(stack)-4):]
				goesTo(t, g, someWord(r, pc), guessWords["return"], reduced(pc+1))
			} else if many := len(stack); many > 0 {
				goesTo(t, g, pc, guessWords["return"], stack[many-1])
				g = impl.GueSeen(g, pc, guessWords["return"])
				stack = stack[:many-1]
			}
			if !slices.Equal(g.Calls, stack) || !impl.GueOk(g) {
				t.Fatalf("%v, want the calls %v", g, stack)
			}
		}
	}
}

func TestP37NothingElseChanges(t *testing.T) {
	r := newRandom()
	for range 2000 {
		g := randomGuesses(r)
		pc := placeFor(r, g)
		for _, w := range guessWords {
			if got := impl.GueSeen(g, pc, w); !slices.Equal(got.Slots, g.Slots) || !impl.GueOk(got) {
				t.Fatalf("GueSeen(%v, %d, %d) = %v", g, pc, w, got)
			}
		}
		for _, name := range []string{"branch", "addition", "none", "jump", "call that puts"} {
			fetches(t, g, pc, guessWords[name], g)
		}
	}
}

func TestP37InvalidArguments(t *testing.T) {
	for _, w := range guessWords {
		for _, bad := range invalidGuesses() {
			fetches(t, bad, 30, w, impl.GueState{})
		}
		for _, n := range notWords {
			fetches(t, fullGuesses(), n, w, impl.GueState{})
			fetches(t, guesses(), n, w, impl.GueState{})
		}
	}
	for _, n := range notWords {
		fetches(t, fullGuesses(), 30, n, impl.GueState{})
		fetches(t, guesses(), n, n, impl.GueState{})
	}
}

// roomy has the same predictor with spare capacity behind both slices, and all of its memory.
func roomy(g impl.GueState) (impl.GueState, []impl.GueSlot, []int) {
	slots := append(slices.Clone(g.Slots), make([]impl.GueSlot, 8)...)
	calls := append(slices.Clone(g.Calls), -1, -2, -3, -4, -5)
	return impl.GueState{Slots: slots[:len(g.Slots)], Calls: calls[:len(g.Calls)]}, slots, calls
}

// spoilGuesses writes to all memory of a predictor.
func spoilGuesses(g impl.GueState) {
	slots, calls := g.Slots[:cap(g.Slots)], g.Calls[:cap(g.Calls)]
	for k := range slots {
		slots[k] = impl.GueSlot{Used: true, Pc: -7, To: -7, Sure: -7}
	}
	for k := range calls {
		calls[k] = -7
	}
}

// apart checks that a result and its argument share no memory, spare capacity included.
func apart(t *testing.T, g impl.GueState, call func(impl.GueState) impl.GueState) {
	t.Helper()
	arg, slots, calls := roomy(g)
	slotsBefore, callsBefore := slices.Clone(slots), slices.Clone(calls)
	got := call(arg)
	want := copiedGuesses(got)
	if !slices.Equal(slots, slotsBefore) || !slices.Equal(calls, callsBefore) {
		t.Fatalf("%v: the argument is written to", g)
	}
	spoilGuesses(got)
	if !slices.Equal(slots, slotsBefore) || !slices.Equal(calls, callsBefore) {
		t.Fatalf("%v: the argument changes with the result", g)
	}
	got = call(arg)
	other := call(arg)
	spoilGuesses(arg)
	if !sameGuesses(got, want) {
		t.Fatalf("%v: the result changes with the argument", g)
	}
	spoilGuesses(other)
	if !sameGuesses(got, want) {
		t.Fatalf("%v: two results share memory", g)
	}
}

func TestP37ResultsShareNoMemory(t *testing.T) {
	for many := range impl.GueDeep + 1 {
		g := fullGuesses()
		g.Calls = g.Calls[:many]
		for _, w := range guessWords {
			apart(t, g, func(g impl.GueState) impl.GueState { return impl.GueSeen(g, 30, w) })
			apart(t, guesses(g.Calls...), func(g impl.GueState) impl.GueState { return impl.GueSeen(g, 803, w) })
		}
	}
}

func TestP38ResultsShareNoMemory(t *testing.T) {
	for many := range impl.GueDeep + 1 {
		g := fullGuesses()
		g.Calls = g.Calls[:many]
		for k := range impl.GueMany {
			// The slot of the second address is displaced by a branch, and left alone by its next address.
			for _, pc := range []int{800 + k, 808 + k} {
				for _, to := range []int{2000 + k, pc + 1, 4321} {
					apart(t, g, func(g impl.GueState) impl.GueState { return impl.GueLearn(g, pc, to) })
					apart(t, guesses(g.Calls...), func(g impl.GueState) impl.GueState { return impl.GueLearn(g, pc, to) })
				}
			}
		}
	}
}

func TestP38EverySureAndEveryOutcome(t *testing.T) {
	for _, pc := range guessPlaces {
		next, was, now := reduced(pc+1), reduced(pc+100), reduced(pc-50)
		slot := func(to, sure int) impl.GueSlot {
			return impl.GueSlot{Used: true, Pc: pc, To: to, Sure: sure}
		}
		for _, c := range []struct {
			before impl.GueSlot
			to     int
			after  impl.GueSlot
		}{
			{slot(was, 0), was, slot(was, 1)},
			{slot(was, 1), was, slot(was, 2)},
			{slot(was, 2), was, slot(was, 3)},
			{slot(was, 3), was, slot(was, 3)},
			{slot(was, 0), next, slot(was, 0)},
			{slot(was, 1), next, slot(was, 0)},
			{slot(was, 2), next, slot(was, 1)},
			{slot(was, 3), next, slot(was, 2)},
			{slot(was, 0), now, slot(now, 1)},
			{slot(was, 1), now, slot(was, 0)},
			{slot(was, 2), now, slot(was, 1)},
			{slot(was, 3), now, slot(was, 2)},
			{slot(next, 0), next, slot(next, 1)},
			{slot(next, 1), next, slot(next, 2)},
			{slot(next, 2), next, slot(next, 3)},
			{slot(next, 3), next, slot(next, 3)},
			{slot(next, 0), now, slot(now, 1)},
			{slot(next, 1), now, slot(next, 0)},
			{slot(next, 2), now, slot(next, 1)},
			{slot(next, 3), now, slot(next, 2)},
			{slot(was, 0), pc, slot(pc, 1)},
			{slot(pc, 2), pc, slot(pc, 3)},
		} {
			for _, g := range []impl.GueState{guesses(), guesses(7), fullGuesses()} {
				learns(t, keeping(g, c.before), pc, c.to, keeping(g, c.after))
			}
		}
	}
}

func TestP38NewSlots(t *testing.T) {
	for _, pc := range guessPlaces {
		for _, g := range []impl.GueState{guesses(), guesses(7, 8), fullGuesses()} {
			for sure := range 4 {
				other := keeping(g, impl.GueSlot{Used: true, Pc: reduced(pc + 8), To: 4321, Sure: sure})
				unused := copiedGuesses(g)
				unused.Slots[pc%8] = impl.GueSlot{}
				for _, before := range []impl.GueState{other, unused} {
					learns(t, before, pc, reduced(pc+1), before)
					for _, to := range []int{pc, reduced(pc - 1), reduced(pc + 2), 4321} {
						learns(t, before, pc, to, keeping(g, impl.GueSlot{Used: true, Pc: pc, To: to, Sure: 2}))
					}
				}
			}
		}
	}
	// At the greatest word the next address is 0, and 65535 is an outcome like any other.
	learns(t, guesses(), 65535, 0, guesses())
	learns(t, guesses(), 65535, 65535, keeping(guesses(), impl.GueSlot{Used: true, Pc: 65535, To: 65535, Sure: 2}))
	// An unused slot has the address 0, but does not store it.
	learns(t, guesses(), 0, 0, keeping(guesses(), impl.GueSlot{Used: true, To: 0, Sure: 2}))
}

func TestP38TwoAddressesShareASlot(t *testing.T) {
	branch := guessWords["branch"]
	g := impl.GueLearn(impl.GueNew(), 3, 20)
	goesTo(t, g, 3, branch, 20)
	goesTo(t, g, 11, branch, 12)
	g = impl.GueLearn(g, 11, 40)
	goesTo(t, g, 3, branch, 4)
	goesTo(t, g, 11, branch, 40)
	g = impl.GueLearn(g, 3, 4)
	goesTo(t, g, 11, branch, 40)
	g = impl.GueLearn(g, 3, 20)
	goesTo(t, g, 3, branch, 20)
	goesTo(t, g, 11, branch, 12)
}

func TestP38OnceTwiceAndOften(t *testing.T) {
	branch := guessWords["branch"]
	g := impl.GueNew()
	for k, sure := range []int{2, 3, 3, 3, 3, 3, 3, 3, 3} {
		g = learns(t, g, 30, 50, keeping(guesses(), impl.GueSlot{Used: true, Pc: 30, To: 50, Sure: sure}))
		if goesTo(t, g, 30, branch, 50); !impl.GueOk(g) {
			t.Fatalf("%v after %d repetitions", g, k+1)
		}
	}
	// A sure slot changes its mind slowly: twice towards sequential execution, and only the fifth time towards another target.
	for _, want := range []int{50, 31, 31, 31, 31} {
		g = impl.GueLearn(g, 30, 31)
		goesTo(t, g, 30, branch, want)
	}
	for range 3 {
		g = impl.GueLearn(g, 30, 50)
	}
	for _, want := range []int{50, 31, 31, 31, 70, 70} {
		g = impl.GueLearn(g, 30, 70)
		goesTo(t, g, 30, branch, want)
	}
}

func TestP38NineRepetitionsArePredicted(t *testing.T) {
	r := newRandom()
	for range 5000 {
		g := randomGuesses(r)
		pc := placeFor(r, g)
		to := []int{someWord(r, pc), g.Slots[pc%8].To, reduced(pc + 1)}[r.IntN(3)]
		for range 9 {
			after := impl.GueLearn(g, pc, to)
			for k := range g.Slots {
				if k != pc%8 && after.Slots[k] != g.Slots[k] {
					t.Fatalf("GueLearn(%v, %d, %d) = %v", g, pc, to, after)
				}
			}
			if !impl.GueOk(after) || !slices.Equal(after.Calls, g.Calls) {
				t.Fatalf("GueLearn(%v, %d, %d) = %v", g, pc, to, after)
			}
			g = after
		}
		for _, name := range []string{"branch", "addition", "call that puts", "none"} {
			goesTo(t, g, pc, guessWords[name], to)
		}
		g.Calls = nil
		goesTo(t, g, pc, guessWords["return"], to)
	}
}

func TestP38InvalidArguments(t *testing.T) {
	for _, bad := range invalidGuesses() {
		for _, to := range []int{31, 50} {
			learns(t, bad, 30, to, impl.GueState{})
		}
	}
	for _, g := range []impl.GueState{guesses(), fullGuesses()} {
		for _, n := range notWords {
			learns(t, g, n, 50, impl.GueState{})
			learns(t, g, n, n+1, impl.GueState{})
			learns(t, g, 30, n, impl.GueState{})
			learns(t, g, n, n, impl.GueState{})
		}
		learns(t, g, 65535, 65536, impl.GueState{})
	}
}
