package tests

import (
	"math"
	"math/rand/v2"
	"slices"
	"sync"
	"testing"

	"loop.example/harbinger/impl"
)

// randomKinds has the kinds of instructions as often as a random program should have them.
var randomKinds = []int{
	impl.CodAlu, impl.CodAlu, impl.CodAlu, impl.CodAddi, impl.CodAddi, impl.CodAddi, impl.CodLui, impl.CodMul,
	impl.CodLoad, impl.CodLoad, impl.CodLoad, impl.CodLoad, impl.CodLoad, impl.CodSave, impl.CodSave, impl.CodSave, impl.CodSave,
	impl.CodEq, impl.CodEq, impl.CodLt, impl.CodJump, impl.CodJump, impl.CodCall, impl.CodCall,
	impl.CodSwap, impl.CodWait, impl.CodSys, impl.CodBack, impl.CodGet, impl.CodGet, impl.CodSet,
}

// randomInstruction is about few addresses and short distances, so that instructions meet.
func randomInstruction(r *rand.Rand) impl.CodInst {
	d, a, b := r.IntN(8), r.IntN(8), r.IntN(8)
	kind := randomKinds[r.IntN(len(randomKinds))]
	switch kind {
	case impl.CodAlu:
		return impl.CodInst{Kind: kind, D: d, A: a, B: b, F: r.IntN(8)}
	case impl.CodAddi:
		return impl.CodInst{Kind: kind, D: d, A: a, N: r.IntN(9) - 3}
	case impl.CodLui:
		return impl.CodInst{Kind: kind, D: d, N: r.IntN(3)}
	case impl.CodLoad:
		return impl.CodInst{Kind: kind, D: d, A: r.IntN(3), N: 18 + r.IntN(14)}
	case impl.CodSave:
		return impl.CodInst{Kind: kind, A: r.IntN(3), B: b, N: 18 + r.IntN(14)}
	case impl.CodEq, impl.CodLt:
		return impl.CodInst{Kind: kind, A: r.IntN(4), B: b, N: r.IntN(9) - 4}
	case impl.CodJump:
		return impl.CodInst{Kind: kind, D: 7 * r.IntN(2), N: r.IntN(9) - 4}
	case impl.CodCall:
		return impl.CodInst{Kind: kind, D: 7 * r.IntN(2), A: 7 * r.IntN(2), N: r.IntN(20) * r.IntN(2)}
	case impl.CodMul, impl.CodSwap:
		return impl.CodInst{Kind: kind, D: d, A: a, B: b}
	case impl.CodSys:
		return impl.CodInst{Kind: kind, N: r.IntN(512)}
	case impl.CodGet:
		return impl.CodInst{Kind: kind, D: d, F: r.IntN(5)}
	case impl.CodSet:
		return impl.CodInst{Kind: kind, A: a, F: []int{0, 1, 3, 4}[r.IntN(4)]}
	}
	return impl.CodInst{Kind: kind}
}

// randomWords is a program that has, now and then, a word that is no instruction.
func randomWords(r *rand.Rand, many int) []int {
	out := []int{}
	for range many {
		if r.IntN(40) == 0 {
			out = append(out, barrenWords[r.IntN(len(barrenWords))])
		} else {
			out = append(out, impl.CodWord(randomInstruction(r)))
		}
	}
	return out
}

// userTable is the physical address of the page table of a user program.
const userTable = 128

// userSetup enters the user mode at the address 16. The trap handler at the address 8 goes on behind the instruction that trapped.
var userSetup = []string{
	"lui r1 1",
	"set r1 2",
	"addi r2 r0 2",
	"set r2 3",
	"addi r2 r0 16",
	"set r2 0",
	"back",
	"wait",
	"get r5 0",
	"addi r5 r5 1",
	"set r5 0",
	"back",
	"wait", "wait", "wait", "wait",
}

// randomUserWords is a program that goes on in user mode, in pages most of which may be written.
func randomUserWords(r *rand.Rand) []int {
	words, _ := impl.TxtRead(userSetup)
	words = append(words, randomWords(r, 32)...)
	words = append(words, make([]int, impl.MemMany-len(words))...)
	for page := range impl.PagMany {
		entry := 32 + 16 + page
		if r.IntN(6) == 0 {
			entry = 32*r.IntN(2) + 16*r.IntN(2) + r.IntN(4)
		}
		words[userTable+page] = entry
	}
	// Some pages are the one of the table, so that the program can write to it.
	words[userTable+r.IntN(3)] = 32 + 16 + userTable/impl.PagWide
	words[userTable+1] = 16 + 32 + 1
	return words
}

// randomPick is small, or about as great as it can be.
func randomPick(r *rand.Rand) int {
	switch r.IntN(10) {
	case 0:
		return math.MaxInt - r.IntN(9)
	case 1:
		return r.IntN(1000)
	}
	return r.IntN(8)
}

// randomPicks is a cycle without anything from outside.
func randomPicks(r *rand.Rand) impl.CorIn {
	in := impl.CorIn{}
	for range min(2, r.IntN(5)) {
		in.Picks = append(in.Picks, randomPick(r))
	}
	return in
}

// placeInFlight is a physical address that matters to a core.
func placeInFlight(r *rand.Rand, s impl.CorState) int {
	places := []int{r.IntN(256), r.IntN(32), (s.Ctl[impl.CtlTab] + r.IntN(17)) % 256}
	for _, it := range s.Rob {
		places = append(places, max(it.Took.At, 0), max(it.Addr, 0))
	}
	for _, f := range s.Fetched {
		places = append(places, max(f.At, 0))
	}
	return places[r.IntN(len(places))]
}

// randomInput is a cycle in which anything may come from outside.
func randomInput(r *rand.Rand, s impl.CorState) impl.CorIn {
	in := randomPicks(r)
	in.Ring = r.IntN(12) == 0
	if r.IntN(8) == 0 {
		in.Lay, in.At, in.N = true, placeInFlight(r, s), r.IntN(65536)
		switch r.IntN(3) {
		case 0:
			in.N = impl.CodWord(randomInstruction(r))
		case 1:
			in.N = visible(s.Chc, in.At)
		}
	}
	return in
}

// startedCore is one at the beginning of some program.
func startedCore(r *rand.Rand, k int) impl.CorState {
	switch k % 4 {
	case 0, 1:
		return impl.CorNew(randomUserWords(r))
	case 2:
		return impl.CorNew(randomWords(r, 8+r.IntN(32)))
	}
	words := []int{}
	for range impl.MemMany {
		words = append(words, r.IntN(65536))
	}
	return impl.CorNew(words)
}

// reached are cores that runs come by, with all kinds of inputs. Tests only read them.
var reached = sync.OnceValue(func() []impl.CorState {
	r := newRandom()
	out := []impl.CorState{}
	for k := range 60 {
		s := startedCore(r, k)
		for n := range 120 {
			if n%9 == k%9 {
				out = append(out, s)
			}
			s, _ = impl.CorStep(s, randomInput(r, s))
		}
	}
	return out
})

// moved has all addresses of instructions moved by a distance.
func moved(s impl.CorState, by int) impl.CorState {
	move := func(pc *int) { *pc = (*pc + by) % impl.WrdTop }
	return changedCore(s, func(s *impl.CorState) {
		move(&s.Pc)
		for k := range s.Rob {
			it := &s.Rob[k]
			move(&it.Took.Pc)
			move(&it.Took.Guess)
			if it.Done && it.Why == 0 {
				it.Next = it.Took.Guess
			}
		}
		for k := range s.Fetched {
			move(&s.Fetched[k].Pc)
			move(&s.Fetched[k].Guess)
		}
	})
}

// disturbed is a valid core that no run comes by: its memory, its predictor, its registers and its numbers are others.
func disturbed(r *rand.Rand, s impl.CorState) impl.CorState {
	return changedCore(moved(s, r.IntN(2)*r.IntN(65536)), func(s *impl.CorState) {
		s.Gue, s.Chc = randomGuesses(r), randomCache(r)
		s.Ctl = []int{r.IntN(65536), r.IntN(65536), r.IntN(300), r.IntN(4), r.IntN(65536)}
		for p := 1; p < impl.PhyMany; p++ {
			s.Nam.Vals[p] = r.IntN(65536) >> (8 * r.IntN(2))
		}
		for _, p := range s.Nam.Free {
			s.Nam.Here[p] = r.IntN(2) == 0
		}
		by := r.IntN(1000)
		s.Nos += by
		for k := range s.Rob {
			it := &s.Rob[k]
			it.No += by
			if it.Addr >= 0 && it.Inst.Kind == impl.CodLoad {
				it.From = it.No - 1 - r.IntN(4)
				it.From = max(it.From, -1)
			}
		}
		if s.Stop && r.IntN(2) == 0 {
			s.Pc = r.IntN(65536)
		}
	})
}

// follow is the in-order machine after one cycle of a core; it fails the test unless its steps are the events.
func follow(t *testing.T, p impl.PlnState, in impl.CorIn, events []impl.PlnEvent) impl.PlnState {
	t.Helper()
	if in.Lay {
		p = impl.PlnLay(p, in.At, in.N)
	}
	for _, e := range events {
		x, want := impl.PlnStep(p, e.Why == impl.WhyRing)
		if e != want {
			t.Fatalf("the core reports %+v, the in-order machine %+v from %v", e, want, p)
		}
		p = x
	}
	return p
}

// loadsRight fails the test unless every executed load has what the youngest older executed store saves, or what is visible.
func loadsRight(t *testing.T, s impl.CorState) {
	t.Helper()
	for k, it := range s.Rob {
		if it.Inst.Kind != impl.CodLoad || !it.Done || it.Why != 0 {
			continue
		}
		want, from := visible(s.Chc, it.Addr), -1
		for _, older := range s.Rob[:k] {
			if older.Inst.Kind == impl.CodSave && older.Done && older.Why == 0 && older.Addr == it.Addr {
				want, from = older.Data, older.No
			}
		}
		if it.From != from || it.D > 0 && s.Nam.Vals[it.New] != want {
			t.Fatalf("entry %d of %+v, want %d from %d", k, s, want, from)
		}
	}
}

// wordsRight fails the test unless everything in flight is what would be fetched now.
func wordsRight(t *testing.T, s impl.CorState) {
	t.Helper()
	p := impl.CorAbs(s)
	all := []impl.FchItem{}
	for _, it := range s.Rob {
		all = append(all, it.Took)
	}
	for _, f := range append(all, s.Fetched...) {
		at, w := impl.PagSee(p, f.Pc, false), -1
		if at >= 0 {
			w = visible(s.Chc, at)
		}
		if f.At != at || f.Word != w {
			t.Fatalf("%+v in %+v, want %d from %d", f, s, w, at)
		}
	}
}

// ranCycle executes one cycle of a core that a run has reached, and checks what holds for every such one.
func ranCycle(t *testing.T, s impl.CorState, in impl.CorIn) (impl.CorState, []impl.PlnEvent) {
	t.Helper()
	x, events := cycle(t, s, in)
	p := follow(t, impl.CorAbs(s), in, events)
	if got := impl.CorAbs(x); !sameState(got, p) {
		t.Fatalf("CorStep(%+v, %+v) = %+v\nis %v, want %v", s, in, x, got, p)
	}
	loadsRight(t, x)
	wordsRight(t, x)
	return x, events
}

func TestP3RandomRuns(t *testing.T) {
	r := newRandom()
	causes, kinds, users := map[int]int{}, map[int]int{}, 0
	for k := range 160 {
		s := startedCore(r, k)
		for range 150 {
			x, events := ranCycle(t, s, randomInput(r, s))
			for _, e := range events {
				causes[min(e.Why, impl.WhyRing+1)]++
				if c, ok := impl.CodRead(e.Word); ok {
					kinds[c.Kind]++
				}
			}
			users += s.Ctl[impl.CtlHow] % 2
			s = x
		}
	}
	// The runs would prove little if they did not have everything in them.
	for why := range impl.WhyRing + 2 {
		if causes[why] == 0 && why != impl.WhySys {
			t.Fatalf("no cause %d in %v", why, causes)
		}
	}
	for kind := range impl.CodSet + 1 {
		if kinds[kind] < 50 {
			t.Fatalf("kind %d is rare in %v", kind, kinds)
		}
	}
	if users < 1000 {
		t.Fatal("cycles in user mode:", users)
	}
}

// A core with nothing in flight may be in any architectural state.
func TestP3RunsFromAnyState(t *testing.T) {
	r := newRandom()
	for k := range 80 {
		s := coreIn(randomState(r, k%4))
		for range 60 {
			s, _ = ranCycle(t, s, randomInput(r, s))
		}
	}
}

// Valid cores that no run comes by do what the steps of a cycle say, too.
func TestP54UnreachedCores(t *testing.T) {
	r := newRandom()
	for _, s := range reached() {
		x := disturbed(r, s)
		coreValid(t, x, true)
		for range 6 {
			x, _ = cycle(t, x, randomInput(r, x))
		}
	}
}

// picker selects entries of a core, depending on the number of the cycle.
type picker struct {
	name  string
	picks func(s impl.CorState, n int) []int
}

// pickers have different tastes.
func pickers() []picker {
	r := newRandom()
	return []picker{
		{"oldest", func(s impl.CorState, n int) []int { return []int{0, 0} }},
		{"youngest", func(s impl.CorState, n int) []int {
			last := max(len(readyOnes(s)), 1) - 1
			return []int{last, max(last, 1) - 1}
		}},
		{"7 and 3", func(s impl.CorState, n int) []int { return []int{7, 3} }},
		{"second", func(s impl.CorState, n int) []int { return []int{1} }},
		{"great", func(s impl.CorState, n int) []int { return []int{math.MaxInt, math.MaxInt - 1} }},
		{"random", func(s impl.CorState, n int) []int { return randomPicks(r).Picks }},
		{"late", func(s impl.CorState, n int) []int { return []int{3, 1}[:n/9%3] }},
	}
}

func TestP4Progress(t *testing.T) {
	r := newRandom()
	two := append(pickers()[:3], picker{"two", func(s impl.CorState, n int) []int { return []int{randomPick(r), randomPick(r)} }})
	for _, s := range reached() {
		for _, p := range two {
			progresses(t, s, p)
		}
	}
}

// progresses fails the test unless there is an event within twelve cycles.
func progresses(t *testing.T, s impl.CorState, p picker) {
	t.Helper()
	x := s
	for n := range 12 {
		y, events := impl.CorStep(x, impl.CorIn{Picks: p.picks(x, n)})
		if len(events) > 0 {
			return
		}
		x = y
	}
	t.Fatalf("%s: no event in twelve cycles from %+v", p.name, s)
}

// quietRun has the events of a run without anything from outside.
func quietRun(s impl.CorState, p picker, cycles int) []impl.PlnEvent {
	out := []impl.PlnEvent{}
	for n := range cycles {
		x, events := impl.CorStep(s, impl.CorIn{Picks: p.picks(s, n)})
		s, out = x, append(out, events...)
	}
	return out
}

// agree fails the test unless two sequences of events are equal as far as both go, and that is not nowhere.
func agree(t *testing.T, a, b []impl.PlnEvent) {
	t.Helper()
	n := min(len(a), len(b))
	if n == 0 || !slices.Equal(a[:n], b[:n]) {
		t.Fatalf("%v and\n%v", a, b)
	}
}

func TestP56SelectionsDoNotMatter(t *testing.T) {
	r := newRandom()
	for k := range 40 {
		s := startedCore(r, k)
		_, want := impl.PlnRun(impl.CorAbs(s), impl.CorMost)
		for _, p := range pickers() {
			agree(t, quietRun(s, p, 100), want)
		}
	}
}

func TestP63PredictorsDoNotMatter(t *testing.T) {
	r := newRandom()
	for _, s := range reached() {
		want := quietRun(s, pickers()[0], 25)
		x := changedCore(s, func(x *impl.CorState) { x.Gue = randomGuesses(r) })
		agree(t, quietRun(x, pickers()[r.IntN(3)], 25), want)
	}
}

// A predictor that is replaced in every cycle is still one.
func TestP63ChangingPredictors(t *testing.T) {
	r := newRandom()
	for k := range 40 {
		s := startedCore(r, k)
		for range 60 {
			s, _ = ranCycle(t, s, randomInput(r, s))
			s.Gue = randomGuesses(r)
			for j := range s.Gue.Slots {
				if slot := &s.Gue.Slots[j]; slot.Used {
					slot.Pc, slot.To = 8*r.IntN(8)+j, r.IntN(40)
				}
			}
		}
	}
}

func TestP64TheArchitectureDeterminesTheFuture(t *testing.T) {
	r := newRandom()
	for _, s := range reached() {
		p := impl.CorAbs(s)
		x := coreIn(p)
		if !sameState(impl.CorAbs(x), p) {
			t.Fatalf("%+v", x)
		}
		agree(t, quietRun(x, pickers()[r.IntN(5)], 25), quietRun(s, pickers()[0], 25))
	}
}

func TestP65MemoryInProgramOrder(t *testing.T) {
	r := newRandom()
	stores := 0
	for k := range 120 {
		s := startedCore(r, k)
		mem := visibleWords(s.Chc)
		for range 100 {
			in := randomInput(r, s)
			x, events := impl.CorStep(s, in)
			if in.Lay {
				mem[in.At] = in.N
			}
			for _, e := range events {
				if e.Addr >= 0 {
					mem[e.Addr] = e.Data
					stores++
				}
			}
			if !slices.Equal(visibleWords(x.Chc), mem) {
				t.Fatalf("CorStep(%+v, %+v) = %+v, %v", s, in, x, events)
			}
			s = x
		}
	}
	if stores < 200 {
		t.Fatal("stores:", stores)
	}
}

func TestP61ExternalWrites(t *testing.T) {
	r := newRandom()
	for _, s := range reached() {
		for range 6 {
			in := randomPicks(r)
			in.Lay, in.At, in.N = true, placeInFlight(r, s), impl.CodWord(randomInstruction(r))
			x, events := ranCycle(t, s, in)
			if len(events) == 0 && !sameState(impl.CorAbs(x), impl.PlnLay(impl.CorAbs(s), in.At, in.N)) {
				t.Fatalf("%+v, %+v: %+v", s, in, x)
			}
			for _, it := range x.Rob {
				if it.Took.At == in.At && len(events) == 0 && it.Took.Word != in.N {
					t.Fatalf("%+v, %+v: %+v", s, in, x)
				}
			}
		}
	}
}

func TestP62SquashesLeaveNoTrace(t *testing.T) {
	r := newRandom()
	squashes := 0
	for _, s := range reached() {
		for range 6 {
			x, events := ranCycle(t, s, randomPicks(r))
			if len(events) > 0 {
				continue
			}
			if len(x.Rob) < len(s.Rob) {
				squashes++
			}
			if !sameState(impl.CorAbs(x), impl.CorAbs(s)) {
				t.Fatalf("%+v: %+v", s, x)
			}
		}
	}
	if squashes < 50 {
		t.Fatal("squashes:", squashes)
	}
}

func TestP67EventsOfTheOldestEntries(t *testing.T) {
	r := newRandom()
	for _, s := range reached() {
		x, events := ranCycle(t, s, randomPicks(r))
		for k, e := range events {
			if it := s.Rob[k]; e.Pc != it.Took.Pc || e.Word != it.Took.Word {
				t.Fatalf("%+v reports %v", s, events)
			}
		}
		if issued := x.Nos - s.Nos; issued < 0 || issued > 2 {
			t.Fatalf("%+v: %+v", s, x)
		}
		for k, it := range x.Rob {
			if k > 0 && it.No <= x.Rob[k-1].No || it.No >= x.Nos {
				t.Fatalf("%+v: %+v", s, x)
			}
		}
	}
}
