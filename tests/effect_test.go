package tests

import (
	"testing"

	"loop.example/harbinger/impl"
)

// everywhere calls a test for all instructions of a kind, in every mode and with several contents of the registers.
func everywhere(kind int, check func(s impl.PlnState, how int, c impl.CodInst, w int)) {
	for _, how := range modes {
		for _, regs := range registerFiles {
			for _, c := range forms[kind].every() {
				s := scene(how, c)
				copy(s.Regs, regs)
				check(s, how, c, impl.CodWord(c))
			}
		}
	}
}

// gives is the outcome of an instruction that only writes its destination.
func gives(c impl.CodInst, val int) outcome {
	return giving(c, val, outcome{next: sceneAt + 1})
}

// giving adds the destination of an instruction to an outcome, unless it is register 0.
func giving(c impl.CodInst, val int, out outcome) outcome {
	if c.D != 0 {
		out.d, out.val = c.D, val
	}
	return out
}

// load and save are instructions with register 1 as the address and register 2 as the other one.
func load(n int) impl.CodInst {
	return impl.CodInst{Kind: impl.CodLoad, D: 2, A: 1, N: n}
}

func save(n int) impl.CodInst {
	return impl.CodInst{Kind: impl.CodSave, A: 1, B: 2, N: n}
}

// next is the state with another instruction in front of it, wherever it stands in a scene of that mode.
func next(s impl.PlnState, how int, c impl.CodInst) impl.PlnState {
	out := copied(s)
	out.Pc = sceneAt
	out.Mem[sceneFrom(how)] = impl.CodWord(c)
	return out
}

func TestP79EveryAluInstruction(t *testing.T) {
	everywhere(impl.CodAlu, func(s impl.PlnState, how int, c impl.CodInst, w int) {
		runs(t, s, w, gives(c, impl.AluDo(c.F, s.Regs[c.A], s.Regs[c.B])))
	})
}

func TestP79AluResults(t *testing.T) {
	for f, want := range []int{2, 4, 65535, 65535, 0, 1, 32768, 1} {
		a, b := 65535, 65535
		switch f {
		case impl.AluAdd:
			b = 3
		case impl.AluSub:
			a, b = 1, 65533
		case impl.AluLt:
			a, b = 32768, 32767
		case impl.AluShl:
			b = 15
		case impl.AluShr:
			b = 31
		}
		c := impl.CodInst{Kind: impl.CodAlu, D: 3, A: 1, B: 2, F: f}
		for _, how := range modes {
			runs(t, with(scene(how, c), map[int]int{1: a, 2: b}), impl.CodWord(c), outcome{next: 41, d: 3, val: want})
		}
	}
}

func TestP79OperandIsDestination(t *testing.T) {
	for _, how := range modes {
		c := impl.CodInst{Kind: impl.CodAlu, D: 4, A: 4, B: 4, F: impl.AluAdd}
		runs(t, with(scene(how, c), map[int]int{4: 40000}), impl.CodWord(c), outcome{next: 41, d: 4, val: 14464})
	}
}

func TestP80EveryImmediateInstruction(t *testing.T) {
	everywhere(impl.CodAddi, func(s impl.PlnState, how int, c impl.CodInst, w int) {
		runs(t, s, w, gives(c, reduced(s.Regs[c.A]+c.N)))
	})
	everywhere(impl.CodLui, func(s impl.PlnState, how int, c impl.CodInst, w int) {
		runs(t, s, w, gives(c, c.N*128))
	})
}

func TestP80ImmediateResults(t *testing.T) {
	for _, how := range modes {
		for _, x := range [][3]int{{0, -32, 65504}, {0, -1, 65535}, {65535, 1, 0}, {65535, 31, 30}, {31, -32, 65535}, {32767, 1, 32768}, {5, 31, 36}, {5, 0, 5}} {
			c := impl.CodInst{Kind: impl.CodAddi, D: 1, A: 2, N: x[1]}
			runs(t, with(scene(how, c), map[int]int{2: x[0]}), impl.CodWord(c), outcome{next: 41, d: 1, val: x[2]})
		}
		for _, x := range [][2]int{{0, 0}, {1, 128}, {256, 32768}, {511, 65408}} {
			c := impl.CodInst{Kind: impl.CodLui, D: 7, N: x[0]}
			runs(t, scene(how, c), impl.CodWord(c), outcome{next: 41, d: 7, val: x[1]})
		}
	}
}

func TestP81EveryMultiplication(t *testing.T) {
	everywhere(impl.CodMul, func(s impl.PlnState, how int, c impl.CodInst, w int) {
		runs(t, s, w, gives(c, impl.MulDo(s.Regs[c.A], s.Regs[c.B])))
	})
}

func TestP81Products(t *testing.T) {
	for _, how := range modes {
		for _, x := range [][3]int{{300, 300, 24464}, {65535, 65535, 1}, {32768, 2, 0}, {7, 0, 0}, {1, 65535, 65535}} {
			c := impl.CodInst{Kind: impl.CodMul, D: 1, A: 2, B: 3}
			runs(t, with(scene(how, c), map[int]int{2: x[0], 3: x[1]}), impl.CodWord(c), outcome{next: 41, d: 1, val: x[2]})
			c.D = 0
			runs(t, with(scene(how, c), map[int]int{2: x[0], 3: x[1]}), impl.CodWord(c), outcome{next: 41})
		}
	}
}

func TestP82EveryEqualityBranch(t *testing.T) {
	everywhere(impl.CodEq, func(s impl.PlnState, how int, c impl.CodInst, w int) {
		to := 41
		if s.Regs[c.A] == s.Regs[c.B] {
			to = 41 + c.N
		}
		runs(t, s, w, outcome{next: to})
	})
}

func TestP82SameRegisterAlwaysBranches(t *testing.T) {
	for _, how := range modes {
		for reg := range impl.RegMany {
			for _, n := range []int{-32, -1, 0, 31} {
				c := impl.CodInst{Kind: impl.CodEq, A: reg, B: reg, N: n}
				runs(t, scene(how, c), impl.CodWord(c), outcome{next: 41 + n})
			}
		}
	}
}

func TestP83EveryLessThanBranch(t *testing.T) {
	everywhere(impl.CodLt, func(s impl.PlnState, how int, c impl.CodInst, w int) {
		a, b := s.Regs[c.A], s.Regs[c.B]
		// Behind the exchange of both halves the words are in the order of their signed values.
		to := 41
		if (a+32768)%65536 < (b+32768)%65536 {
			to = 41 + c.N
		}
		runs(t, s, w, outcome{next: to})
	})
}

func TestP83ExchangedOperands(t *testing.T) {
	for _, how := range modes {
		for _, a := range sampleWords() {
			for _, b := range sampleWords() {
				taken := 0
				for _, c := range []impl.CodInst{{Kind: impl.CodLt, A: 1, B: 2, N: 9}, {Kind: impl.CodLt, A: 2, B: 1, N: 9}} {
					x, _ := step(t, with(scene(how, c), map[int]int{1: a, 2: b}), false)
					if x.Pc == 50 {
						taken++
					} else if x.Pc != 41 {
						t.Fatalf("%+v continues at %d", c, x.Pc)
					}
				}
				if want := map[bool]int{true: 0, false: 1}[a == b]; taken != want {
					t.Fatalf("%d of the branches for %d and %d are taken", taken, a, b)
				}
			}
		}
	}
}

func TestP84EveryJumpAndCall(t *testing.T) {
	everywhere(impl.CodJump, func(s impl.PlnState, how int, c impl.CodInst, w int) {
		runs(t, s, w, giving(c, 41, outcome{next: reduced(41 + c.N)}))
	})
	everywhere(impl.CodCall, func(s impl.PlnState, how int, c impl.CodInst, w int) {
		runs(t, s, w, giving(c, 41, outcome{next: reduced(s.Regs[c.A] + c.N)}))
	})
}

func TestP84OperandOfACallIsDestination(t *testing.T) {
	for _, how := range modes {
		c := impl.CodInst{Kind: impl.CodCall, D: 6, A: 6, N: -3}
		runs(t, with(scene(how, c), map[int]int{6: 500}), impl.CodWord(c), outcome{next: 497, d: 6, val: 41})
	}
}

func TestP84CallsReturn(t *testing.T) {
	jump := impl.CodInst{Kind: impl.CodJump, D: 5, N: 3}
	call := impl.CodInst{Kind: impl.CodCall, D: 5, A: 2, N: -4}
	back := impl.CodInst{Kind: impl.CodCall, A: 5}
	for _, how := range modes {
		for _, c := range []impl.CodInst{jump, call} {
			s := with(scene(how, c), map[int]int{2: 48})
			// Both come to 44, which is in the page of the instruction.
			s.Mem[sceneFrom(how)+4] = impl.CodWord(back)
			s = runs(t, s, impl.CodWord(c), outcome{next: 44, d: 5, val: 41})
			runs(t, s, impl.CodWord(back), outcome{next: 41})
		}
	}
}

func TestP85EveryLoad(t *testing.T) {
	everywhere(impl.CodLoad, func(s impl.PlnState, how int, c impl.CodInst, w int) {
		at := placeIn(how, reduced(s.Regs[c.A]+c.N), false)
		if at < 0 {
			traps(t, s, false, w, impl.WhyLoad)
			return
		}
		runs(t, s, w, gives(c, s.Mem[at]))
	})
}

func TestP85EverySave(t *testing.T) {
	everywhere(impl.CodSave, func(s impl.PlnState, how int, c impl.CodInst, w int) {
		at := placeIn(how, reduced(s.Regs[c.A]+c.N), true)
		if at < 0 {
			traps(t, s, false, w, impl.WhySave)
			return
		}
		runs(t, s, w, outcome{next: 41, saves: true, addr: at, data: s.Regs[c.B]})
	})
}

func TestP85StoredWordsAreLoaded(t *testing.T) {
	for _, how := range modes {
		for addr := range impl.MemMany {
			at := placeIn(how, addr, true)
			// The instruction and the table must outlast the first step.
			if at < 0 || at == sceneFrom(how) || how%2 == 1 && at/16 == 14 {
				continue
			}
			for _, data := range []int{0, 1, 32768, 65535} {
				s := with(scene(how, save(-7)), map[int]int{1: addr + 7, 2: data})
				s = runs(t, s, impl.CodWord(save(-7)), outcome{next: 41, saves: true, addr: at, data: data})
				s = with(next(s, how, load(-7)), map[int]int{2: 4444})
				runs(t, s, impl.CodWord(load(-7)), outcome{next: 41, d: 2, val: data})
			}
		}
	}
}

func TestP85AddressesOutsideTheMemory(t *testing.T) {
	for _, how := range modes {
		for _, x := range []struct{ a, n int }{{256, 0}, {225, 31}, {288, -32}, {65535, 0}, {65504, 31}, {0, -1}, {0, -32}, {31, -32}, {32768, 0}, {300, 31}} {
			s := map[int]int{1: x.a, 2: 3}
			traps(t, with(scene(how, load(x.n)), s), false, impl.CodWord(load(x.n)), impl.WhyLoad)
			traps(t, with(scene(how, save(x.n)), s), false, impl.CodWord(save(x.n)), impl.WhySave)
		}
	}
}

func TestP85SumsWrapAround(t *testing.T) {
	for _, how := range modes {
		for _, x := range []struct{ a, n, addr int }{{65535, 1, 0}, {65535, 31, 30}, {65505, 31, 0}, {32, -32, 0}, {255, 0, 255}, {224, 31, 255}, {287, -32, 255}} {
			at := placeIn(how, x.addr, false)
			s := with(scene(how, load(x.n)), map[int]int{1: x.a})
			runs(t, s, impl.CodWord(load(x.n)), outcome{next: 41, d: 2, val: s.Mem[at]})
			if at = placeIn(how, x.addr, true); at < 0 {
				traps(t, with(scene(how, save(x.n)), map[int]int{1: x.a, 2: 3}), false, impl.CodWord(save(x.n)), impl.WhySave)
				continue
			}
			s = with(scene(how, save(x.n)), map[int]int{1: x.a, 2: 65535})
			runs(t, s, impl.CodWord(save(x.n)), outcome{next: 41, saves: true, addr: at, data: 65535})
		}
	}
}

func TestP85PagesThatMayNotBeSavedTo(t *testing.T) {
	for _, how := range userModes {
		// Page 1 lacks the write bit, page 3 the valid bit, page 7 both, and page 8 has all bits but the valid one.
		s := map[int]int{1: 16, 2: 3}
		runs(t, with(scene(how, load(3)), s), impl.CodWord(load(3)), outcome{next: 41, d: 2, val: 1000 + 7*35})
		traps(t, with(scene(how, save(3)), s), false, impl.CodWord(save(3)), impl.WhySave)
		for _, addr := range []int{48, 63, 112, 128} {
			s = map[int]int{1: addr, 2: 3}
			traps(t, with(scene(how, load(0)), s), false, impl.CodWord(load(0)), impl.WhyLoad)
			traps(t, with(scene(how, save(0)), s), false, impl.CodWord(save(0)), impl.WhySave)
		}
	}
}

func TestP85TheTableLiesInThePageThatIsWritten(t *testing.T) {
	for _, how := range userModes {
		// Page 4 is the table itself: page 1 becomes writable.
		s := with(scene(how, save(1)), map[int]int{1: 64, 2: 16 + 32 + 2})
		s = runs(t, s, impl.CodWord(save(1)), outcome{next: 41, saves: true, addr: sceneTable + 1, data: 50})
		s = with(next(s, how, save(0)), map[int]int{1: 16})
		runs(t, s, impl.CodWord(save(0)), outcome{next: 41, saves: true, addr: 32, data: 50})
		// The page of the instruction ceases to be valid.
		s = with(scene(how, save(2)), map[int]int{1: 64, 2: 0})
		s = runs(t, s, impl.CodWord(save(2)), outcome{next: 41, saves: true, addr: sceneTable + 2, data: 0})
		traps(t, s, false, -1, impl.WhyTake)
		// The entry of the page that is written loses its write bit, and the next save does not go through.
		s = with(scene(how, save(4)), map[int]int{1: 64, 2: 16 + 14})
		s = runs(t, s, impl.CodWord(save(4)), outcome{next: 41, saves: true, addr: sceneTable + 4, data: 30})
		traps(t, next(s, how, save(4)), false, impl.CodWord(save(4)), impl.WhySave)
	}
}

func TestP86EverySwap(t *testing.T) {
	everywhere(impl.CodSwap, func(s impl.PlnState, how int, c impl.CodInst, w int) {
		at := placeIn(how, s.Regs[c.A], true)
		if at < 0 {
			traps(t, s, false, w, impl.WhySave)
			return
		}
		runs(t, s, w, giving(c, s.Mem[at], outcome{next: 41, saves: true, addr: at, data: s.Regs[c.B]}))
	})
}

func TestP86OperandsAreDestination(t *testing.T) {
	for _, how := range modes {
		at := placeIn(how, 7, true)
		for _, x := range []struct {
			c    impl.CodInst
			data int
		}{
			{impl.CodInst{Kind: impl.CodSwap, D: 2, A: 1, B: 2}, 65535},
			{impl.CodInst{Kind: impl.CodSwap, D: 1, A: 1, B: 2}, 65535},
			{impl.CodInst{Kind: impl.CodSwap, D: 1, A: 1, B: 1}, 7},
			{impl.CodInst{Kind: impl.CodSwap, D: 3, A: 1, B: 1}, 7},
			{impl.CodInst{Kind: impl.CodSwap, D: 3, A: 1, B: 0}, 0},
		} {
			s := with(scene(how, x.c), map[int]int{1: 7, 2: 65535})
			runs(t, s, impl.CodWord(x.c), outcome{next: 41, d: x.c.D, val: s.Mem[at], saves: true, addr: at, data: x.data})
		}
	}
}

func TestP86TwiceRestores(t *testing.T) {
	c := impl.CodInst{Kind: impl.CodSwap, D: 2, A: 1, B: 2}
	w := impl.CodWord(c)
	for _, how := range modes {
		for addr := range impl.MemMany {
			at := placeIn(how, addr, true)
			// The instruction and the table must outlast the first swap.
			if at < 0 || at == sceneFrom(how) || how%2 == 1 && at/16 == 14 {
				continue
			}
			s := with(scene(how, c), map[int]int{1: addr, 2: 54321})
			x := runs(t, s, w, outcome{next: 41, d: 2, val: s.Mem[at], saves: true, addr: at, data: 54321})
			x = next(x, how, c)
			x = runs(t, x, w, outcome{next: 41, d: 2, val: 54321, saves: true, addr: at, data: s.Mem[at]})
			x.Pc = s.Pc
			if !sameState(x, s) {
				t.Fatalf("two swaps turn %v into %v", s, x)
			}
		}
	}
}

func TestP86SwapNeedsAPageThatMayBeSavedTo(t *testing.T) {
	c := impl.CodInst{Kind: impl.CodSwap, D: 3, A: 1, B: 2}
	for _, how := range modes {
		for _, addr := range []int{256, 65535} {
			traps(t, with(scene(how, c), map[int]int{1: addr}), false, impl.CodWord(c), impl.WhySave)
		}
	}
	for _, how := range userModes {
		for _, addr := range []int{16, 31, 32, 48, 112, 128, 144} {
			traps(t, with(scene(how, c), map[int]int{1: addr}), false, impl.CodWord(c), impl.WhySave)
		}
	}
}

func TestP87EverySystemCall(t *testing.T) {
	everywhere(impl.CodSys, func(s impl.PlnState, how int, c impl.CodInst, w int) {
		traps(t, s, false, w, 5+16*c.N)
	})
	for n, why := range map[int]int{0: 5, 1: 21, 511: 8181} {
		c := impl.CodInst{Kind: impl.CodSys, N: n}
		for _, how := range modes {
			traps(t, scene(how, c), false, impl.CodWord(c), why)
		}
	}
}

func TestP87AfterBackItIsExecutedAgain(t *testing.T) {
	c, back := impl.CodInst{Kind: impl.CodSys, N: 3}, impl.CodInst{Kind: impl.CodBack}
	for how, after := range []int{0, 1, 0, 1} {
		s := scene(how, c)
		s.Mem[impl.PlnVec] = impl.CodWord(back)
		s = traps(t, s, false, impl.CodWord(c), 5+16*3)
		s = runs(t, s, impl.CodWord(back), outcome{next: sceneAt, ctl: map[int]int{impl.CtlHow: after}})
		traps(t, s, false, impl.CodWord(c), 5+16*3)
	}
}

func TestP87UnlessTheReturnAddressWasChanged(t *testing.T) {
	c, wait := impl.CodInst{Kind: impl.CodSys, N: 3}, impl.CodWord(impl.CodInst{Kind: impl.CodWait})
	handler, wrong := impl.TxtRead([]string{"get r1 0", "addi r1 r1 1", "set r1 0", "back"})
	if wrong != 0 {
		t.Fatal(wrong)
	}
	for how, after := range []int{0, 1, 0, 1} {
		s := scene(how, c)
		copy(s.Mem[impl.PlnVec:], handler)
		s.Mem[sceneFrom(how)+1] = wait
		s = traps(t, s, false, impl.CodWord(c), 5+16*3)
		s = runs(t, s, handler[0], outcome{next: 9, d: 1, val: 40})
		s = runs(t, s, handler[1], outcome{next: 10, d: 1, val: 41})
		s = runs(t, s, handler[2], outcome{next: 11, ctl: map[int]int{impl.CtlWas: 41}})
		s = runs(t, s, handler[3], outcome{next: 41, ctl: map[int]int{impl.CtlHow: after}})
		runs(t, s, wait, outcome{next: 42})
	}
}

func TestP88WrittenControlRegistersAreRead(t *testing.T) {
	for _, how := range supervisorModes {
		for f := range impl.CtlMany {
			for _, value := range []int{0, 1, 2, 3, 4, 5, 6, 7, 255, 32767, 32768, 65532, 65533, 65534, 65535} {
				want := value
				if f == impl.CtlHow {
					want = []int{0, 0, 2, 2}[value%4]
				}
				set := impl.CodInst{Kind: impl.CodSet, A: 3, F: f}
				get := impl.CodInst{Kind: impl.CodGet, D: 4, F: f}
				s := with(scene(how, set), map[int]int{3: value})
				s = runs(t, s, impl.CodWord(set), outcome{next: 41, ctl: map[int]int{f: want}})
				runs(t, next(s, how, get), impl.CodWord(get), outcome{next: 41, d: 4, val: want})
			}
		}
	}
}

func TestP88EveryControlInstruction(t *testing.T) {
	everywhere(impl.CodGet, func(s impl.PlnState, how int, c impl.CodInst, w int) {
		if how%2 == 0 {
			runs(t, s, w, gives(c, s.Ctl[c.F]))
		}
	})
	everywhere(impl.CodSet, func(s impl.PlnState, how int, c impl.CodInst, w int) {
		if how%2 == 0 && c.F != impl.CtlHow {
			runs(t, s, w, outcome{next: 41, ctl: map[int]int{c.F: s.Regs[c.A]}})
		}
	})
}

func TestP89WaitChangesOnlyPc(t *testing.T) {
	everywhere(impl.CodWait, func(s impl.PlnState, how int, c impl.CodInst, w int) {
		runs(t, s, w, outcome{next: 41})
	})
}

func TestP90Register0IsNoDestination(t *testing.T) {
	for _, how := range modes {
		for kind, f := range forms {
			if _, greatest := f.limits('D'); greatest == 0 {
				continue
			}
			// A control register and a word of memory other than 0 would show in register 0.
			for _, c := range f.every() {
				if c.D != 0 {
					continue
				}
				s := scene(how, c)
				copy(s.Regs, registerFiles[2])
				x, e := step(t, s, false)
				if x.Regs[0] != 0 || e.D != 0 || e.Val != 0 {
					t.Fatalf("kind %d: %+v becomes %v and reports %+v", kind, c, x.Regs, e)
				}
			}
		}
	}
}

func TestP90WhatElseAnInstructionDoes(t *testing.T) {
	for _, how := range modes {
		at := placeIn(how, 5, true)
		regs := map[int]int{1: 5, 2: 6}
		for c, want := range map[impl.CodInst]outcome{
			{Kind: impl.CodLoad, A: 1}:            {next: 41},
			{Kind: impl.CodSwap, A: 1, B: 2}:      {next: 41, saves: true, addr: at, data: 6},
			{Kind: impl.CodJump, N: 20}:           {next: 61},
			{Kind: impl.CodCall, A: 1, N: 20}:     {next: 25},
			{Kind: impl.CodLui, N: 3}:             {next: 41},
			{Kind: impl.CodAlu, A: 1, B: 2, F: 3}: {next: 41},
		} {
			runs(t, with(scene(how, c), regs), impl.CodWord(c), want)
		}
		trap := impl.CodInst{Kind: impl.CodLoad, A: 1}
		traps(t, with(scene(how, trap), map[int]int{1: 256}), false, impl.CodWord(trap), impl.WhyLoad)
		get := impl.CodInst{Kind: impl.CodGet, F: impl.CtlWord}
		if how%2 == 0 {
			runs(t, scene(how, get), impl.CodWord(get), outcome{next: 41})
		} else {
			traps(t, scene(how, get), false, impl.CodWord(get), impl.WhyMay)
		}
	}
}

func TestP91FetchingOutsideTheMemory(t *testing.T) {
	for _, how := range modes {
		for _, pc := range []int{256, 257, 4096, 32767, 32768, 65280, 65535} {
			s := scene(how, impl.CodInst{})
			s.Pc = pc
			traps(t, s, false, -1, impl.WhyTake)
		}
		for pc := range impl.MemMany {
			s := scene(how, impl.CodInst{})
			s.Pc = pc
			at := placeIn(how, pc, false)
			if at < 0 {
				traps(t, s, false, -1, impl.WhyTake)
				continue
			}
			s.Mem[at] = 0xffff
			// The word may be the entry of its own page; it then no longer has that translation.
			if how%2 == 1 && at == sceneTable+pc/16 {
				continue
			}
			traps(t, s, false, 0xffff, impl.WhyCode)
		}
	}
}

func TestP91CallsWrapAround(t *testing.T) {
	for _, how := range modes {
		for _, x := range [][3]int{{65535, 1, 0}, {65535, 31, 30}, {65535, 0, 65535}, {65505, 31, 0}, {0, -1, 65535}, {0, -32, 65504}, {31, -32, 65535}, {32767, 1, 32768}} {
			c := impl.CodInst{Kind: impl.CodCall, D: 2, A: 1, N: x[1]}
			runs(t, with(scene(how, c), map[int]int{1: x[0]}), impl.CodWord(c), outcome{next: x[2], d: 2, val: 41})
		}
	}
}

func TestP91AddressesAtTheEnds(t *testing.T) {
	for _, x := range []struct {
		pc   int
		c    impl.CodInst
		want outcome
	}{
		{0, impl.CodInst{Kind: impl.CodJump, D: 1, N: -256}, outcome{next: 65281, d: 1, val: 1}},
		{0, impl.CodInst{Kind: impl.CodJump, D: 1, N: -1}, outcome{next: 0, d: 1, val: 1}},
		{0, impl.CodInst{Kind: impl.CodJump, D: 1, N: -2}, outcome{next: 65535, d: 1, val: 1}},
		{0, impl.CodInst{Kind: impl.CodEq, N: -32}, outcome{next: 65505}},
		{0, impl.CodInst{Kind: impl.CodLt, A: 1, B: 2, N: -2}, outcome{next: 65535}},
		{255, impl.CodInst{Kind: impl.CodWait}, outcome{next: 256}},
		{255, impl.CodInst{Kind: impl.CodJump, D: 1, N: 255}, outcome{next: 511, d: 1, val: 256}},
		{255, impl.CodInst{Kind: impl.CodCall, D: 1, A: 2, N: -3}, outcome{next: 65535, d: 1, val: 256}},
	} {
		for _, how := range modes {
			s := scene(how, impl.CodInst{})
			s.Pc = x.pc
			s.Mem[placeIn(how, x.pc, false)] = impl.CodWord(x.c)
			runs(t, s, impl.CodWord(x.c), x.want)
		}
	}
}

func TestP92TwoPagesShareAFrame(t *testing.T) {
	for _, how := range userModes {
		for offset := range impl.PagWide {
			// Pages 1 and 5 have the frame 2, and only page 5 may be written.
			s := with(scene(how, save(0)), map[int]int{1: 80 + offset, 2: 4321})
			s = runs(t, s, impl.CodWord(save(0)), outcome{next: 41, saves: true, addr: 32 + offset, data: 4321})
			s = with(next(s, how, load(0)), map[int]int{1: 16 + offset, 2: 0})
			s = runs(t, s, impl.CodWord(load(0)), outcome{next: 41, d: 2, val: 4321})
			traps(t, next(s, how, save(0)), false, impl.CodWord(save(0)), impl.WhySave)
		}
	}
}
