package tests

import (
	"math/rand/v2"
	"slices"
	"testing"

	"loop.example/harbinger/impl"
)

// sceneAt is the address of the instruction of a scene; it is in page 2.
const sceneAt = 40

// sceneTable is the physical address of the page table of a scene: its words are the frame 14.
const sceneTable = 224

// sceneEntries are the page-table entries of a scene. All others are 0.
var sceneEntries = map[int]int{
	0:  16 + 32 + 1,
	1:  16 + 2,
	2:  16 + 5,
	3:  32 + 3,
	4:  16 + 32 + 14,
	5:  16 + 32 + 2,
	6:  65535,
	8:  65535 - 16,
	9:  65535 - 32,
	15: 16 + 32,
}

// readable and writable say, independently of the entries, which frame each page of a scene has.
var (
	readable = map[int]int{0: 1, 1: 2, 2: 5, 4: 14, 5: 2, 6: 15, 9: 15, 15: 0}
	writable = map[int]int{0: 1, 4: 14, 5: 2, 6: 15, 15: 0}
)

// modes are the values of CtlHow.
var (
	modes           = []int{0, 1, 2, 3}
	supervisorModes = []int{0, 2}
	userModes       = []int{1, 3}
)

// registerFiles has the words at which signs, sums and addresses change.
var registerFiles = [][]int{
	{0, 1, 2, 3, 5, 8, 13, 21},
	{0, 65535, 32768, 32767, 1, 65504, 255, 256},
	{0, 17, 17, 95, 66, 79, 65520, 128},
}

// sceneMemory is the memory of a scene without its instruction.
var sceneMemory = func() []int {
	out := []int{}
	for k := range impl.MemMany {
		out = append(out, 1000+7*k)
	}
	for page := range impl.PagMany {
		out[sceneTable+page] = sceneEntries[page]
	}
	return out
}()

// sceneWords is a scene whose memory has that word at the address of its instruction.
func sceneWords(how int, w int) impl.PlnState {
	s := impl.PlnState{Pc: sceneAt, Regs: slices.Clone(registerFiles[0]), Ctl: []int{9, 99, sceneTable, how, 999}, Mem: slices.Clone(sceneMemory)}
	s.Mem[sceneFrom(how)] = w
	return s
}

// sceneFrom is the physical address of the instruction of a scene.
func sceneFrom(how int) int {
	if how%2 == 0 {
		return sceneAt
	}
	return 5*16 + 8
}

// scene is a state of that mode in front of an instruction. Its memory words and control registers are all different, so that a mix-up shows.
func scene(how int, c impl.CodInst) impl.PlnState {
	return sceneWords(how, impl.CodWord(c))
}

// placeIn is the physical address of an address in a scene, by the tables above.
func placeIn(how int, addr int, save bool) int {
	if addr >= 256 {
		return -1
	}
	if how%2 == 0 {
		return addr
	}
	frames := readable
	if save {
		frames = writable
	}
	frame, ok := frames[addr/16]
	if !ok {
		return -1
	}
	return frame*16 + addr%16
}

// copied shares no memory with the state.
func copied(s impl.PlnState) impl.PlnState {
	return impl.PlnState{Pc: s.Pc, Regs: slices.Clone(s.Regs), Ctl: slices.Clone(s.Ctl), Mem: slices.Clone(s.Mem)}
}

// with is the state with other registers, by their numbers.
func with(s impl.PlnState, regs map[int]int) impl.PlnState {
	out := copied(s)
	for r, value := range regs {
		out.Regs[r] = value
	}
	return out
}

// sameState reports whether two states are equal, where a nil slice and an empty one are the same.
func sameState(a, b impl.PlnState) bool {
	return a.Pc == b.Pc && slices.Equal(a.Regs, b.Regs) && slices.Equal(a.Ctl, b.Ctl) && slices.Equal(a.Mem, b.Mem)
}

// nothing reports whether a state is the zero value.
func nothing(s impl.PlnState) bool {
	return sameState(s, impl.PlnState{})
}

// randomState is a valid state of that mode. Every second one has a page table whose entries are mostly valid, in memory, and its Pc there, so that the user mode gets past the translation.
func randomState(r *rand.Rand, how int) impl.PlnState {
	s := impl.PlnState{Pc: r.IntN(65536), Ctl: []int{r.IntN(65536), r.IntN(65536), r.IntN(65536), how, r.IntN(65536)}}
	for range impl.RegMany {
		s.Regs = append(s.Regs, r.IntN(65536)>>(8*r.IntN(2)))
	}
	s.Regs[0] = 0
	for range impl.MemMany {
		s.Mem = append(s.Mem, r.IntN(65536))
	}
	if r.IntN(2) == 0 {
		s.Pc, s.Ctl[impl.CtlTab] = r.IntN(256), r.IntN(250)
		for k := s.Ctl[impl.CtlTab]; k < min(s.Ctl[impl.CtlTab]+16, 256); k++ {
			s.Mem[k] |= 16 * r.IntN(4)
		}
	}
	return s
}

// newRandom gives every test the same numbers in every run.
func newRandom() *rand.Rand {
	return rand.New(rand.NewPCG(4, 12))
}

// step executes one instruction and checks what holds for every valid state: the argument is not changed, the result is valid, and the event reports each change.
func step(t *testing.T, s impl.PlnState, ring bool) (impl.PlnState, impl.PlnEvent) {
	t.Helper()
	before := copied(s)
	x, e := impl.PlnStep(s, ring)
	if !sameState(s, before) {
		t.Fatalf("PlnStep changes its argument %v to %v", before, s)
	}
	if !impl.PlnOk(x) {
		t.Fatalf("PlnStep(%v, %t) is not valid: %v", s, ring, x)
	}
	if e.Pc != s.Pc {
		t.Fatalf("PlnStep(%v, %t) reports %+v", s, ring, e)
	}
	regs, mem := slices.Clone(s.Regs), slices.Clone(s.Mem)
	if e.D != 0 {
		regs[e.D] = e.Val
	} else if e.Val != 0 {
		t.Fatalf("PlnStep(%v, %t) reports %+v", s, ring, e)
	}
	if e.Addr != -1 {
		mem[e.Addr] = e.Data
	} else if e.Data != 0 {
		t.Fatalf("PlnStep(%v, %t) reports %+v", s, ring, e)
	}
	if !slices.Equal(x.Regs, regs) || !slices.Equal(x.Mem, mem) {
		t.Fatalf("PlnStep(%v, %t) = %v changes what %+v does not report", s, ring, x, e)
	}
	return x, e
}

// outcome is what an instruction changes that does not trap.
type outcome struct {
	// next is the new Pc.
	next int
	d    int
	val  int
	// saves says whether the instruction writes memory.
	saves bool
	addr  int
	data  int
	// ctl has the control registers that change.
	ctl map[int]int
}

// runs fails the test unless the next instruction has just that outcome, and returns the state behind it.
func runs(t *testing.T, s impl.PlnState, w int, want outcome) impl.PlnState {
	t.Helper()
	state := copied(s)
	state.Pc = want.next
	event := impl.PlnEvent{Pc: s.Pc, Word: w, D: want.d, Val: want.val, Addr: -1}
	if want.d != 0 {
		state.Regs[want.d] = want.val
	}
	if want.saves {
		state.Mem[want.addr] = want.data
		event.Addr, event.Data = want.addr, want.data
	}
	for f, value := range want.ctl {
		state.Ctl[f] = value
	}
	return comesTo(t, s, false, state, event)
}

// traps fails the test unless the machine takes a trap with that cause, and returns the state behind it.
func traps(t *testing.T, s impl.PlnState, ring bool, w int, why int) impl.PlnState {
	t.Helper()
	state := copied(s)
	state.Pc = 8
	state.Ctl[impl.CtlWas], state.Ctl[impl.CtlWhy] = s.Pc, why
	state.Ctl[impl.CtlHow] = []int{0, 2, 0, 2}[s.Ctl[impl.CtlHow]]
	return comesTo(t, s, ring, state, impl.PlnEvent{Pc: s.Pc, Word: w, Why: why, Addr: -1})
}

// comesTo fails the test unless one step gives just that state and that event.
func comesTo(t *testing.T, s impl.PlnState, ring bool, state impl.PlnState, event impl.PlnEvent) impl.PlnState {
	t.Helper()
	x, e := step(t, s, ring)
	if e != event {
		t.Fatalf("PlnStep(%v, %t) reports %+v, want %+v", s, ring, e, event)
	}
	if !sameState(x, state) {
		t.Fatalf("PlnStep(%v, %t) = %v, want %v", s, ring, x, state)
	}
	return x
}

// sees fails the test unless PagSee has the wanted result.
func sees(t *testing.T, s impl.PlnState, addr int, save bool, want int) {
	t.Helper()
	if got := impl.PagSee(s, addr, save); got != want {
		t.Fatalf("PagSee(Ctl %v, %d, %t) = %d, want %d", s.Ctl, addr, save, got, want)
	}
}

// changedState is the state to which something was done.
func changedState(s impl.PlnState, change func(*impl.PlnState)) impl.PlnState {
	out := copied(s)
	change(&out)
	return out
}

// wrongLengths are states that have a word too few or too many in one part.
func wrongLengths(s impl.PlnState) []impl.PlnState {
	out := []impl.PlnState{{}, {Regs: s.Regs}, {Regs: s.Regs, Ctl: s.Ctl}, {Ctl: s.Ctl, Mem: s.Mem}, {Regs: s.Regs, Mem: s.Mem}}
	for _, part := range []func(*impl.PlnState) *[]int{
		func(s *impl.PlnState) *[]int { return &s.Regs },
		func(s *impl.PlnState) *[]int { return &s.Ctl },
		func(s *impl.PlnState) *[]int { return &s.Mem },
	} {
		for _, list := range []func([]int) []int{
			func(l []int) []int { return l[:len(l)-1] },
			func(l []int) []int { return append(l, 0) },
			func(l []int) []int { return append(l, l...) },
			func(l []int) []int { return l[:1] },
			func(l []int) []int { return l[:0] },
			func(l []int) []int { return nil },
		} {
			out = append(out, changedState(s, func(x *impl.PlnState) { *part(x) = list(*part(x)) }))
		}
	}
	return out
}

// withoutWords are states that have a number which is no word in one place.
func withoutWords(s impl.PlnState) []impl.PlnState {
	out := []impl.PlnState{}
	for _, n := range notWords {
		out = append(out, changedState(s, func(x *impl.PlnState) { x.Pc = n }))
		for k := range s.Regs {
			out = append(out, changedState(s, func(x *impl.PlnState) { x.Regs[k] = n }))
		}
		for k := range s.Ctl {
			out = append(out, changedState(s, func(x *impl.PlnState) { x.Ctl[k] = n }))
		}
		for k := range s.Mem {
			out = append(out, changedState(s, func(x *impl.PlnState) { x.Mem[k] = n }))
		}
	}
	return out
}

// invalidStates has states that are invalid for each of the reasons that there are.
func invalidStates() []impl.PlnState {
	out := []impl.PlnState{}
	for _, how := range modes {
		s := scene(how, impl.CodInst{Kind: impl.CodWait})
		out = append(out, wrongLengths(s)...)
		out = append(out, withoutWords(s)...)
		for _, n := range []int{1, 2, 65535} {
			out = append(out, changedState(s, func(x *impl.PlnState) { x.Regs[0] = n }))
		}
		for _, n := range []int{4, 5, 6, 7, 8, 65535} {
			out = append(out, changedState(s, func(x *impl.PlnState) { x.Ctl[impl.CtlHow] = n }))
		}
	}
	return out
}

func TestPlainConstants(t *testing.T) {
	got := []int{impl.MemMany, impl.PagWide, impl.PagMany, impl.CtlWas, impl.CtlWhy, impl.CtlTab, impl.CtlHow, impl.CtlWord, impl.WhyCode, impl.WhyTake, impl.WhyLoad, impl.WhySave, impl.WhySys, impl.WhyMay, impl.WhyRing, impl.PlnVec}
	if want := []int{256, 16, 16, 0, 1, 2, 3, 4, 1, 2, 3, 4, 5, 6, 7, 8}; !slices.Equal(got, want) {
		t.Fatal(got, want)
	}
}

func TestP25ValidStates(t *testing.T) {
	r := newRandom()
	for _, how := range modes {
		top := changedState(scene(how, impl.CodInst{}), func(x *impl.PlnState) {
			x.Pc = 65535
			for k := range x.Mem {
				x.Mem[k] = 65535
			}
			x.Regs = []int{0, 65535, 65535, 65535, 65535, 65535, 65535, 65535}
			x.Ctl = []int{65535, 65535, 65535, how, 65535}
		})
		for _, s := range []impl.PlnState{scene(how, impl.CodInst{}), top, randomState(r, how)} {
			if !impl.PlnOk(s) {
				t.Fatalf("%v is not valid", s)
			}
		}
	}
}

func TestP25InvalidStates(t *testing.T) {
	for _, s := range invalidStates() {
		if impl.PlnOk(s) {
			t.Fatalf("%v is valid", s)
		}
	}
}

func TestP25InvalidStatesDoNothing(t *testing.T) {
	for _, s := range invalidStates() {
		for _, ring := range []bool{false, true} {
			if x, e := impl.PlnStep(s, ring); !nothing(x) || e != (impl.PlnEvent{}) {
				t.Fatalf("PlnStep(%v, %t) = %v, %+v", s, ring, x, e)
			}
			sees(t, s, 0, ring, -1)
			sees(t, s, 17, ring, -1)
		}
		if x := impl.PlnLay(s, 3, 4); !nothing(x) {
			t.Fatalf("PlnLay(%v, 3, 4) = %v", s, x)
		}
	}
}

func TestP26TheProgramIsInMemory(t *testing.T) {
	for _, many := range []int{0, 1, 2, 8, 9, impl.MemMany - 1, impl.MemMany} {
		words, mem := []int{}, make([]int, impl.MemMany)
		for k := range many {
			words = append(words, 65535-k)
			mem[k] = 65535 - k
		}
		want := impl.PlnState{Regs: make([]int, 8), Ctl: make([]int, 5), Mem: mem}
		if s := impl.PlnNew(words); !impl.PlnOk(s) || !sameState(s, want) {
			t.Fatalf("PlnNew of %d words: %v", many, s)
		}
	}
	if s := impl.PlnNew(nil); !impl.PlnOk(s) || !sameState(s, impl.PlnNew([]int{})) {
		t.Fatalf("PlnNew(nil) = %v", s)
	}
}

func TestP26InvalidWords(t *testing.T) {
	for _, many := range []int{impl.MemMany + 1, impl.MemMany + 2, 2 * impl.MemMany} {
		if s := impl.PlnNew(make([]int, many)); !nothing(s) {
			t.Fatalf("PlnNew of %d words: %v", many, s)
		}
	}
	for _, n := range notWords {
		for _, words := range [][]int{{n}, {0, n}, {n, 0}, append(make([]int, impl.MemMany-1), n), append(make([]int, impl.MemMany), n)} {
			if s := impl.PlnNew(words); !nothing(s) {
				t.Fatalf("PlnNew(%v) = %v", words, s)
			}
		}
	}
}

func TestP26TheMemoryIsNew(t *testing.T) {
	words := make([]int, impl.MemMany)
	s := impl.PlnNew(words)
	words[0], s.Mem[1] = 5, 6
	if s.Mem[0] != 0 || words[1] != 0 {
		t.Fatal("the memory is that of the argument")
	}
	few := make([]int, 2, 2*impl.MemMany)
	impl.PlnNew(few).Mem[3] = 7
	if few[:4][3] != 0 {
		t.Fatal("the memory is the spare capacity of the argument")
	}
	again := impl.PlnNew(words[1:])
	again.Regs[1], again.Ctl[1], again.Mem[1] = 1, 1, 1
	if !sameState(impl.PlnNew(words[1:]), impl.PlnNew(nil)) {
		t.Fatal("states share memory")
	}
}

func TestP27SupervisorMode(t *testing.T) {
	for _, how := range supervisorModes {
		s := scene(how, impl.CodInst{})
		for addr := range impl.WrdTop {
			want := -1
			if addr < 256 {
				want = addr
			}
			sees(t, s, addr, false, want)
			sees(t, s, addr, true, want)
		}
	}
}

func TestP27UserMode(t *testing.T) {
	for _, how := range userModes {
		s := scene(how, impl.CodInst{})
		for addr := range impl.WrdTop {
			sees(t, s, addr, false, placeIn(how, addr, false))
			sees(t, s, addr, true, placeIn(how, addr, true))
		}
		sees(t, s, 18, false, 34)
		sees(t, s, 18, true, -1)
		sees(t, s, 82, true, 34)
		sees(t, s, 50, false, -1)
		sees(t, s, 255, true, 15)
		sees(t, s, 256, false, -1)
		sees(t, s, 65535, false, -1)
	}
}

func TestP27EveryEntry(t *testing.T) {
	s := scene(1, impl.CodInst{})
	for entry := range impl.WrdTop {
		s.Mem[sceneTable+7] = entry
		reads, writes := -1, -1
		if entry/16%2 == 1 {
			reads = entry%16*16 + 13
			if entry/32%2 == 1 {
				writes = reads
			}
		}
		sees(t, s, 7*16+13, false, reads)
		sees(t, s, 7*16+13, true, writes)
	}
}

func TestP27EntriesOutsideTheMemory(t *testing.T) {
	s := scene(3, impl.CodInst{})
	for k := range s.Mem {
		s.Mem[k] = 16 + 32 + k%16
	}
	for _, table := range []int{0, 1, 128, 239, 240, 241, 250, 254, 255, 256, 257, 1000, 32768, 65519, 65520, 65521, 65530, 65535} {
		s.Ctl[impl.CtlTab] = table
		for addr := range 300 {
			want := -1
			if addr < 256 && table+addr/16 <= 255 {
				want = (table+addr/16)%16*16 + addr%16
			}
			sees(t, s, addr, false, want)
			sees(t, s, addr, true, want)
		}
	}
}

func TestP27WhatMayBeWrittenMayBeRead(t *testing.T) {
	r := newRandom()
	for k := range 200 {
		s := randomState(r, k%4)
		for addr := range 300 {
			reads, writes := impl.PagSee(s, addr, false), impl.PagSee(s, addr, true)
			if writes != -1 && writes != reads || reads < -1 || reads >= impl.MemMany {
				t.Fatalf("%v: address %d is read at %d and written at %d", s, addr, reads, writes)
			}
		}
	}
}

func TestP27InvalidAddresses(t *testing.T) {
	for _, how := range modes {
		s := scene(how, impl.CodInst{})
		for _, addr := range append([]int{-15, -16, -256}, notWords...) {
			sees(t, s, addr, false, -1)
			sees(t, s, addr, true, -1)
		}
	}
}

func TestP28PagesBelongTogether(t *testing.T) {
	r := newRandom()
	seen := 0
	for k := range 200 {
		s := randomState(r, userModes[k%2])
		for addr := range 256 {
			for _, save := range []bool{false, true} {
				first, here := impl.PagSee(s, addr/16*16, save), impl.PagSee(s, addr, save)
				if first == -1 && here == -1 {
					continue
				}
				seen++
				if first == -1 || here != first+addr%16 {
					t.Fatalf("%v: %d is at %d, and the first address of its page at %d", s, addr, here, first)
				}
			}
		}
	}
	if seen == 0 {
		t.Fatal("there is no translation")
	}
}

func TestP29EveryWord(t *testing.T) {
	for _, how := range modes {
		for w := range impl.WrdTop {
			s := sceneWords(how, w)
			s.Regs = registerFiles[w%3]
			x, e := step(t, s, false)
			if e.Word != w {
				t.Fatalf("word %d is reported as %+v", w, e)
			}
			trapped(t, s, x, e)
		}
	}
}

func TestP29RandomStates(t *testing.T) {
	r := newRandom()
	causes := map[int]bool{}
	for k := range 20000 {
		s := randomState(r, k%4)
		x, e := step(t, s, r.IntN(8) == 0)
		trapped(t, s, x, e)
		// The remainder is the cause itself, and WhySys for all system calls.
		causes[e.Why%16] = true
	}
	for why := range 8 {
		if !causes[why] {
			t.Fatalf("cause %d does not occur", why)
		}
	}
}

// trapped fails the test unless the machine is at PlnVec behind a trap, in supervisor mode, and has not changed its registers and its memory.
func trapped(t *testing.T, s impl.PlnState, x impl.PlnState, e impl.PlnEvent) {
	t.Helper()
	if e.Why == 0 {
		return
	}
	ctl := slices.Clone(s.Ctl)
	ctl[impl.CtlWas], ctl[impl.CtlWhy], ctl[impl.CtlHow] = s.Pc, e.Why, ctl[impl.CtlHow]%2*2
	if x.Pc != impl.PlnVec || !slices.Equal(x.Ctl, ctl) || !slices.Equal(x.Regs, s.Regs) || !slices.Equal(x.Mem, s.Mem) {
		t.Fatalf("%v traps as %+v and becomes %v", s, e, x)
	}
}

func TestP29WordsThatAreNoInstructions(t *testing.T) {
	taken := map[int]bool{}
	for _, w := range everyInstruction() {
		taken[w] = true
	}
	for _, how := range modes {
		for w := range impl.WrdTop {
			if !taken[w] {
				traps(t, sceneWords(how, w), false, w, impl.WhyCode)
			}
		}
	}
}

func TestP29TheFirstCauseCounts(t *testing.T) {
	// Neither the address nor the mode lets these run, but the word is no instruction.
	traps(t, sceneWords(1, 0xd001), false, 0xd001, impl.WhyCode)
	traps(t, sceneWords(1, 0xffff), false, 0xffff, impl.WhyCode)
	// No translation counts ahead of what the word would be.
	s := sceneWords(1, 0xffff)
	s.Mem[sceneTable+2] = 32 + 5
	traps(t, s, false, -1, impl.WhyTake)
	// An interrupt counts ahead of all.
	traps(t, s, true, -1, impl.WhyRing)
}

func TestP29ResultsShareNoMemory(t *testing.T) {
	for _, how := range modes {
		for _, c := range []impl.CodInst{{Kind: impl.CodWait}, {Kind: impl.CodAddi, D: 1}, {Kind: impl.CodSave, B: 1}, {Kind: impl.CodSys}, {Kind: impl.CodSet}, {Kind: impl.CodBack}} {
			s := scene(how, c)
			before := copied(s)
			x, _ := impl.PlnStep(s, false)
			spoil(x)
			if !sameState(s, before) {
				t.Fatalf("the result of %+v is the argument", c)
			}
			x, _ = impl.PlnStep(s, false)
			after := copied(x)
			spoil(s)
			if !sameState(x, after) {
				t.Fatalf("the argument of %+v is the result", c)
			}
		}
	}
}

// spoil writes to all the memory of a state, and to its spare capacity.
func spoil(s impl.PlnState) {
	for _, list := range [][]int{s.Regs, s.Ctl, s.Mem} {
		list = list[:cap(list)]
		for k := range list {
			list[k] = 77
		}
	}
}

func TestP30SupervisorModeMasksInterrupts(t *testing.T) {
	for _, how := range supervisorModes {
		for w := 0; w < impl.WrdTop; w += 5 {
			s := sceneWords(how, w)
			x, e := step(t, s, false)
			comesTo(t, s, true, x, e)
		}
		s := sceneWords(how, 0)
		s.Pc = 256
		traps(t, s, true, -1, impl.WhyTake)
	}
}

func TestP30UserModeTakesInterrupts(t *testing.T) {
	for _, how := range userModes {
		for w := 0; w < impl.WrdTop; w += 5 {
			traps(t, sceneWords(how, w), true, -1, impl.WhyRing)
		}
		for _, pc := range []int{0, 48, 255, 256, 65535} {
			s := sceneWords(how, 0)
			s.Pc = pc
			traps(t, s, true, -1, impl.WhyRing)
		}
	}
}

func TestP31InterruptsResume(t *testing.T) {
	r := newRandom()
	back := impl.CodWord(impl.CodInst{Kind: impl.CodBack})
	for k := range 400 {
		s := randomState(r, userModes[k%2])
		s.Mem[impl.PlnVec] = back
		x := traps(t, s, true, -1, impl.WhyRing)
		x = runs(t, x, back, outcome{next: s.Pc, ctl: map[int]int{impl.CtlHow: 1}})
		want := copied(s)
		want.Ctl[impl.CtlWas], want.Ctl[impl.CtlWhy], want.Ctl[impl.CtlHow] = s.Pc, impl.WhyRing, 1
		if !sameState(x, want) {
			t.Fatalf("%v becomes %v", s, x)
		}
	}
}

func TestP31BackFromATrapInEveryMode(t *testing.T) {
	back := impl.CodWord(impl.CodInst{Kind: impl.CodBack})
	for how, after := range [][2]int{{0, 0}, {2, 1}, {0, 0}, {2, 1}} {
		s := sceneWords(how, 0xffff)
		s.Mem[impl.PlnVec] = back
		x := traps(t, s, false, 0xffff, impl.WhyCode)
		if x.Ctl[impl.CtlHow] != after[0] {
			t.Fatalf("a trap turns mode %d into %d", how, x.Ctl[impl.CtlHow])
		}
		x = runs(t, x, back, outcome{next: sceneAt, ctl: map[int]int{impl.CtlHow: after[1]}})
		if x.Ctl[impl.CtlHow] != after[1] {
			t.Fatalf("back from mode %d comes to %d", how, x.Ctl[impl.CtlHow])
		}
	}
}

func TestP31BackIsForTheSupervisor(t *testing.T) {
	c := impl.CodInst{Kind: impl.CodBack}
	w := impl.CodWord(c)
	for _, was := range []int{0, 1, 9, 255, 256, 65535} {
		for how, after := range map[int]int{0: 0, 2: 1} {
			s := scene(how, c)
			s.Ctl[impl.CtlWas] = was
			runs(t, s, w, outcome{next: was, ctl: map[int]int{impl.CtlHow: after}})
		}
		for _, how := range userModes {
			s := scene(how, c)
			s.Ctl[impl.CtlWas] = was
			traps(t, s, false, w, impl.WhyMay)
		}
	}
}

func TestP32UserModeKeepsControlRegisters(t *testing.T) {
	for _, how := range userModes {
		for w := range impl.WrdTop {
			s := sceneWords(how, w)
			if x, e := step(t, s, false); e.Why == 0 && !slices.Equal(x.Ctl, s.Ctl) {
				t.Fatalf("word %d changes control registers from %v to %v", w, s.Ctl, x.Ctl)
			}
		}
	}
}

func TestP32ControlInstructionsTrapInUserMode(t *testing.T) {
	for _, how := range userModes {
		for _, kind := range []int{impl.CodBack, impl.CodGet, impl.CodSet} {
			for _, c := range forms[kind].every() {
				traps(t, scene(how, c), false, impl.CodWord(c), impl.WhyMay)
			}
		}
	}
}

func TestP33OneWordChanges(t *testing.T) {
	for _, how := range modes {
		s := scene(how, impl.CodInst{Kind: impl.CodWait})
		before := copied(s)
		for at := range impl.MemMany {
			for _, n := range []int{0, 1, at, 32768, 65535} {
				want := copied(s)
				want.Mem[at] = n
				if x := impl.PlnLay(s, at, n); !sameState(x, want) || !sameState(s, before) {
					t.Fatalf("PlnLay(%v, %d, %d) = %v", s, at, n, x)
				}
			}
		}
	}
}

func TestP33WritesCommute(t *testing.T) {
	s := scene(1, impl.CodInst{Kind: impl.CodWait})
	for _, at := range []int{0, 1, 8, sceneTable, 254, 255} {
		for other := range impl.MemMany {
			x := impl.PlnLay(impl.PlnLay(s, at, 11), other, 22)
			y := impl.PlnLay(impl.PlnLay(s, other, 22), at, 11)
			if sameState(x, y) != (at != other) {
				t.Fatalf("writes to %d and %d give %v and %v", at, other, x.Mem, y.Mem)
			}
		}
	}
}

func TestP33InvalidArguments(t *testing.T) {
	s := scene(0, impl.CodInst{Kind: impl.CodWait})
	for _, at := range notPlaces {
		if x := impl.PlnLay(s, at, 1); !nothing(x) {
			t.Fatalf("PlnLay(s, %d, 1) = %v", at, x)
		}
	}
	for _, n := range notWords {
		if x := impl.PlnLay(s, 1, n); !nothing(x) {
			t.Fatalf("PlnLay(s, 1, %d) = %v", n, x)
		}
	}
}

func TestP33ResultsShareNoMemory(t *testing.T) {
	s := scene(1, impl.CodInst{Kind: impl.CodWait})
	before := copied(s)
	spoil(impl.PlnLay(s, 3, 4))
	if !sameState(s, before) {
		t.Fatal("the result is the argument")
	}
	x := impl.PlnLay(s, 3, 4)
	after := copied(x)
	spoil(s)
	if !sameState(x, after) {
		t.Fatal("the argument is the result")
	}
}
