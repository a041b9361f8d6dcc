package tests

import (
	"math"
	"math/rand/v2"
	"slices"
	"testing"

	"loop.example/harbinger/impl"
)

// notRegs are numbers of no architectural register, notPhys of no physical one.
var (
	notRegs = []int{math.MinInt, -8, -2, -1, 8, 9, 16, 20, impl.WrdTop, math.MaxInt}
	notPhys = []int{math.MinInt, -20, -2, -1, 20, 21, 32, impl.WrdTop, math.MaxInt}
)

// namValues are words at which something may change.
var namValues = []int{0, 1, 77, 32767, 32768, 65534, 65535}

// sameNames reports whether two states are equal, where a nil slice and an empty one are the same.
func sameNames(a, b impl.NamState) bool {
	return slices.Equal(a.Map, b.Map) && slices.Equal(a.Free, b.Free) && slices.Equal(a.Vals, b.Vals) && slices.Equal(a.Here, b.Here)
}

// copiedNames shares no memory with the state.
func copiedNames(s impl.NamState) impl.NamState {
	return impl.NamState{Map: slices.Clone(s.Map), Free: slices.Clone(s.Free), Vals: slices.Clone(s.Vals), Here: slices.Clone(s.Here)}
}

// changedNames is a copy of the state with the change.
func changedNames(s impl.NamState, change func(*impl.NamState)) impl.NamState {
	out := copiedNames(s)
	change(&out)
	return out
}

// freshNames is the state that NamNew is to return.
func freshNames() impl.NamState {
	s := impl.NamState{
		Map:  []int{0, 1, 2, 3, 4, 5, 6, 7},
		Free: []int{8, 9, 10, 11, 12, 13, 14, 15, 16, 17, 18, 19},
		Vals: make([]int, 20),
	}
	for range 20 {
		s.Here = append(s.Here, true)
	}
	return s
}

// busyNames has all values different, and unavailable ones among the physical registers that are mapped, free, or neither.
func busyNames() impl.NamState {
	s := impl.NamState{
		Map:  []int{0, 9, 17, 3, 12, 19, 1, 8},
		Free: []int{4, 18, 2, 11},
		Vals: []int{0},
		Here: []bool{true},
	}
	for p := 1; p < 20; p++ {
		s.Vals = append(s.Vals, 1000+p)
		s.Here = append(s.Here, p%3 != 0)
	}
	s.Vals[9], s.Vals[17] = 65535, 0
	return s
}

// looseOnes are the physical registers that are neither mapped nor free, ascending.
func looseOnes(s impl.NamState) []int {
	out := []int{}
	for p := range 20 {
		if !slices.Contains(s.Map, p) && !slices.Contains(s.Free, p) {
			out = append(out, p)
		}
	}
	return out
}

// freeing is the state with that many free physical registers: the last ones are left out, or loose ones are appended.
func freeing(s impl.NamState, many int) impl.NamState {
	out := copiedNames(s)
	out.Free = append(out.Free, looseOnes(s)...)[:many]
	return out
}

// randomNames is a valid state with at least that many free physical registers.
func randomNames(r *rand.Rand, least int) impl.NamState {
	places := r.Perm(19)
	for k := range places {
		places[k]++
	}
	s := impl.NamState{Map: append([]int{0}, places[:7]...), Vals: []int{0}, Here: []bool{true}}
	s.Free = slices.Clone(places[7 : 7+least+r.IntN(13-least)])
	for range 19 {
		s.Vals = append(s.Vals, someWord(r, 100))
		s.Here = append(s.Here, r.IntN(3) > 0)
	}
	return s
}

// manyNames are valid states with every number of free physical registers.
func manyNames() []impl.NamState {
	out := []impl.NamState{freshNames(), busyNames()}
	for many := range 13 {
		out = append(out, freeing(freshNames(), many), freeing(busyNames(), many))
	}
	r := newRandom()
	for range 300 {
		out = append(out, randomNames(r, 0))
	}
	return out
}

// namesValid checks a state, and that it is not written to.
func namesValid(t *testing.T, s impl.NamState, want bool) {
	t.Helper()
	before := copiedNames(s)
	if got := impl.NamOk(s); got != want {
		t.Fatalf("NamOk(%v) = %v, want %v", s, got, want)
	}
	if !sameNames(s, before) {
		t.Fatalf("NamOk(%v) changes its argument", before)
	}
}

// reaches checks a state that a function returns, that it is valid unless it is the zero value, and that the argument is not written to.
func reaches(t *testing.T, arg, before, got, want impl.NamState) impl.NamState {
	t.Helper()
	if !sameNames(got, want) {
		t.Fatalf("%v: the result is %v, want %v", before, got, want)
	}
	if impl.NamOk(got) == sameNames(got, impl.NamState{}) {
		t.Fatalf("%v: NamOk(%v) = %v", before, got, impl.NamOk(got))
	}
	if !sameNames(arg, before) {
		t.Fatalf("%v: the argument is written to", before)
	}
	return got
}

// takes checks all results of an allocation.
func takes(t *testing.T, s impl.NamState, d int, want impl.NamState, now, old int, ok bool) impl.NamState {
	t.Helper()
	before := copiedNames(s)
	got, gotNow, gotOld, gotOk := impl.NamTake(s, d)
	if gotNow != now || gotOld != old || gotOk != ok {
		t.Fatalf("NamTake(%v, %d) = .., %d, %d, %v, want %d, %d, %v", s, d, gotNow, gotOld, gotOk, now, old, ok)
	}
	return reaches(t, s, before, got, want)
}

// takesFirst checks an allocation for which there is a free physical register.
func takesFirst(t *testing.T, s impl.NamState, d int) impl.NamState {
	t.Helper()
	now := s.Free[0]
	want := changedNames(s, func(x *impl.NamState) {
		x.Map[d] = now
		x.Free = x.Free[1:]
		x.Here[now] = false
	})
	return takes(t, s, d, want, now, s.Map[d], true)
}

// takesNothing checks an allocation for which an argument is invalid.
func takesNothing(t *testing.T, s impl.NamState, d int) {
	t.Helper()
	takes(t, s, d, impl.NamState{}, 0, 0, false)
}

// puts checks a value that is written.
func puts(t *testing.T, s impl.NamState, p int, n int, want impl.NamState) impl.NamState {
	t.Helper()
	before := copiedNames(s)
	return reaches(t, s, before, impl.NamPut(s, p, n), want)
}

// putsInto checks a value that is written to a physical register.
func putsInto(t *testing.T, s impl.NamState, p int, n int) impl.NamState {
	t.Helper()
	return puts(t, s, p, n, changedNames(s, func(x *impl.NamState) { x.Vals[p], x.Here[p] = n, true }))
}

// frees checks a physical register that is given back.
func frees(t *testing.T, s impl.NamState, p int, want impl.NamState) impl.NamState {
	t.Helper()
	before := copiedNames(s)
	return reaches(t, s, before, impl.NamFree(s, p), want)
}

// freesLast checks a loose physical register that is given back.
func freesLast(t *testing.T, s impl.NamState, p int) impl.NamState {
	t.Helper()
	return frees(t, s, p, changedNames(s, func(x *impl.NamState) { x.Free = append(x.Free, p) }))
}

// undoes checks an allocation that is undone.
func undoes(t *testing.T, s impl.NamState, d, now, old int, want impl.NamState) impl.NamState {
	t.Helper()
	before := copiedNames(s)
	return reaches(t, s, before, impl.NamBack(s, d, now, old), want)
}

// undoesTo checks that a register gets a loose physical register back.
func undoesTo(t *testing.T, s impl.NamState, d, old int) impl.NamState {
	t.Helper()
	now := s.Map[d]
	want := changedNames(s, func(x *impl.NamState) {
		x.Map[d] = old
		x.Free = append(x.Free, now)
	})
	return undoes(t, s, d, now, old, want)
}

// reads checks the value of a register, and that the state is not written to.
func reads(t *testing.T, s impl.NamState, d int, want int, here bool) {
	t.Helper()
	before := copiedNames(s)
	if got, gotHere := impl.NamGet(s, d); got != want || gotHere != here {
		t.Fatalf("NamGet(%v, %d) = %d, %v, want %d, %v", s, d, got, gotHere, want, here)
	}
	if !sameNames(s, before) {
		t.Fatalf("NamGet(%v, %d) changes its argument", before, d)
	}
}

// readsAs checks that all registers but one read as in another state.
func readsAs(t *testing.T, s, other impl.NamState, but int) {
	t.Helper()
	for d := range 8 {
		if d != but {
			reads(t, s, d, other.Vals[other.Map[d]], other.Here[other.Map[d]])
		}
	}
}

// wrongCounts are states with a slice of another length that are otherwise as they should be.
func wrongCounts(s impl.NamState) []impl.NamState {
	spare := append(looseOnes(s), s.Free...)
	out := []impl.NamState{}
	for many := range 8 {
		out = append(out, changedNames(s, func(x *impl.NamState) { x.Map = x.Map[:many] }))
	}
	for many := range 20 {
		out = append(out,
			changedNames(s, func(x *impl.NamState) { x.Vals = x.Vals[:many] }),
			changedNames(s, func(x *impl.NamState) { x.Here = x.Here[:many] }),
			changedNames(s, func(x *impl.NamState) { x.Vals, x.Here = x.Vals[:many], x.Here[:many] }))
	}
	return append(out,
		changedNames(s, func(x *impl.NamState) { x.Map, x.Free = append(x.Map, spare[0]), nil }),
		changedNames(s, func(x *impl.NamState) { x.Map, x.Free = append(x.Map, spare...), nil }),
		changedNames(s, func(x *impl.NamState) { x.Vals = append(x.Vals, 5) }),
		changedNames(s, func(x *impl.NamState) { x.Here = append(x.Here, true) }),
		changedNames(s, func(x *impl.NamState) { x.Vals, x.Here = append(x.Vals, 5), append(x.Here, true) }),
		changedNames(s, func(x *impl.NamState) { x.Map = nil }),
		changedNames(s, func(x *impl.NamState) { x.Vals = nil }),
		changedNames(s, func(x *impl.NamState) { x.Here = nil }))
}

// wrongNumbers are states with a number that is out of range.
func wrongNumbers(s impl.NamState) []impl.NamState {
	out := []impl.NamState{}
	for p := range 20 {
		for _, n := range notWords {
			out = append(out, changedNames(s, func(x *impl.NamState) { x.Vals[p] = n }))
		}
	}
	for _, p := range notPhys {
		for d := range s.Map {
			out = append(out, changedNames(s, func(x *impl.NamState) { x.Map[d] = p }))
		}
		for k := range s.Free {
			out = append(out, changedNames(s, func(x *impl.NamState) { x.Free[k] = p }))
		}
		out = append(out, changedNames(s, func(x *impl.NamState) { x.Free = append(x.Free, p) }))
	}
	return out
}

// doubles are states in which a physical register occurs twice.
func doubles(s impl.NamState) []impl.NamState {
	out := []impl.NamState{}
	for i := range s.Map {
		for j := range s.Map {
			if i != j {
				out = append(out, changedNames(s, func(x *impl.NamState) { x.Map[i] = x.Map[j] }))
			}
		}
		for k := range s.Free {
			out = append(out,
				changedNames(s, func(x *impl.NamState) { x.Map[i] = x.Free[k] }),
				changedNames(s, func(x *impl.NamState) { x.Free[k] = x.Map[i] }))
		}
		out = append(out,
			changedNames(s, func(x *impl.NamState) { x.Free = append(x.Free, x.Map[i]) }),
			changedNames(s, func(x *impl.NamState) { x.Free = append([]int{x.Map[i]}, x.Free...) }),
			changedNames(s, func(x *impl.NamState) { x.Free = []int{x.Map[i]} }))
	}
	for i := range s.Free {
		for j := range s.Free {
			if i != j {
				out = append(out, changedNames(s, func(x *impl.NamState) { x.Free[i] = x.Free[j] }))
			}
		}
		out = append(out, changedNames(s, func(x *impl.NamState) { x.Free = append(x.Free, x.Free[i]) }))
	}
	return append(out,
		changedNames(s, func(x *impl.NamState) { x.Free = append(x.Free, x.Free...) }),
		changedNames(s, func(x *impl.NamState) { x.Free = make([]int, 100) }),
		changedNames(s, func(x *impl.NamState) { x.Map = make([]int, 8) }))
}

// wrongNoughts are states whose register 0 is not as it must be.
func wrongNoughts(s impl.NamState) []impl.NamState {
	out := []impl.NamState{changedNames(s, func(x *impl.NamState) { x.Here[0] = false })}
	for _, n := range []int{1, 2, 32768, 65535} {
		out = append(out,
			changedNames(s, func(x *impl.NamState) { x.Vals[0] = n }),
			changedNames(s, func(x *impl.NamState) { x.Vals[0], x.Here[0] = n, false }))
	}
	for d := 1; d < 8; d++ {
		out = append(out, changedNames(s, func(x *impl.NamState) {
			x.Vals[x.Map[d]], x.Here[x.Map[d]] = 0, true
			x.Map[0], x.Map[d] = x.Map[d], x.Map[0]
		}))
	}
	for k := range s.Free {
		out = append(out, changedNames(s, func(x *impl.NamState) {
			x.Vals[x.Free[k]], x.Here[x.Free[k]] = 0, true
			x.Map[0], x.Free[k] = x.Free[k], x.Map[0]
		}))
	}
	for _, p := range looseOnes(s) {
		out = append(out, changedNames(s, func(x *impl.NamState) { x.Map[0], x.Vals[p], x.Here[p] = p, 0, true }))
	}
	return out
}

// invalidNames are states with one thing wrong.
func invalidNames() []impl.NamState {
	out := []impl.NamState{{}, {Map: []int{0}}, {Free: []int{8}}, {Vals: make([]int, 20)}, {Here: freshNames().Here}}
	for _, s := range []impl.NamState{freshNames(), busyNames(), freeing(busyNames(), 12)} {
		out = slices.Concat(out, wrongCounts(s), wrongNumbers(s), doubles(s), wrongNoughts(s))
	}
	return out
}

func TestP39NewIsValid(t *testing.T) {
	s := impl.NamNew()
	if !sameNames(s, freshNames()) {
		t.Fatalf("NamNew() = %v", s)
	}
	namesValid(t, s, true)
	for d := range 8 {
		reads(t, s, d, 0, true)
	}
}

func TestP39NewSharesNoMemory(t *testing.T) {
	a, b := impl.NamNew(), impl.NamNew()
	spoilNames(a)
	if !sameNames(b, freshNames()) || !sameNames(impl.NamNew(), freshNames()) {
		t.Fatal("two new states share memory")
	}
	ownSlices(t, impl.NamNew)
}

func TestP39ValidStates(t *testing.T) {
	for _, s := range manyNames() {
		namesValid(t, s, true)
	}
	for p := 1; p < 20; p++ {
		for _, n := range namValues {
			for _, here := range []bool{true, false} {
				for _, s := range []impl.NamState{freshNames(), busyNames()} {
					namesValid(t, changedNames(s, func(x *impl.NamState) { x.Vals[p], x.Here[p] = n, here }), true)
				}
			}
		}
	}
}

func TestP39MappedIsNotFree(t *testing.T) {
	for _, s := range manyNames() {
		for _, p := range s.Map {
			for k := range len(s.Free) + 1 {
				namesValid(t, changedNames(s, func(x *impl.NamState) { x.Free = slices.Insert(x.Free, k, p) }), false)
			}
		}
	}
}

func TestP39MappedOnce(t *testing.T) {
	for _, s := range manyNames() {
		for i := range 8 {
			for j := range i {
				namesValid(t, changedNames(s, func(x *impl.NamState) { x.Map[i] = x.Map[j] }), false)
				namesValid(t, changedNames(s, func(x *impl.NamState) { x.Map[j] = x.Map[i] }), false)
			}
		}
	}
}

func TestP39InvalidStates(t *testing.T) {
	for _, s := range invalidNames() {
		namesValid(t, s, false)
	}
}

func TestP40TakesTheFirstFree(t *testing.T) {
	for _, s := range manyNames() {
		if len(s.Free) == 0 {
			continue
		}
		for d := 1; d < 8; d++ {
			x := takesFirst(t, s, d)
			old := s.Map[d]
			if slices.Contains(x.Map, old) || slices.Contains(x.Free, old) {
				t.Fatalf("NamTake(%v, %d): %d is still mapped or free", s, d, old)
			}
			if _, here := impl.NamGet(x, d); here {
				t.Fatalf("NamTake(%v, %d): the register is available", s, d)
			}
			readsAs(t, x, s, d)
		}
	}
}

func TestP40AsManyAsAreFree(t *testing.T) {
	for _, s := range manyNames() {
		for range len(s.Free) {
			s = takesFirst(t, s, 1+len(s.Free)%7)
		}
		for d := 1; d < 8; d++ {
			takes(t, s, d, s, 0, 0, false)
		}
	}
}

func TestP40OneRegisterTakesAll(t *testing.T) {
	for d := 1; d < 8; d++ {
		s := impl.NamNew()
		old := d
		for now := 8; now < 20; now++ {
			x, gotNow, gotOld, ok := impl.NamTake(s, d)
			if gotNow != now || gotOld != old || !ok || x.Map[d] != now {
				t.Fatalf("NamTake(%v, %d) = %v, %d, %d, %v", s, d, x, gotNow, gotOld, ok)
			}
			s, old = x, now
		}
		takes(t, s, d, s, 0, 0, false)
	}
}

func TestP40TheFreeListIsAQueue(t *testing.T) {
	s := freeing(freshNames(), 1)
	s = takesFirst(t, s, 3)
	takes(t, s, 3, s, 0, 0, false)
	s = freesLast(t, s, 3)
	s = takesFirst(t, s, 5)
	if !slices.Equal(s.Map, []int{0, 1, 2, 8, 4, 3, 6, 7}) || len(s.Free) != 0 {
		t.Fatalf("%v", s)
	}
}

func TestP40InvalidArguments(t *testing.T) {
	for _, bad := range invalidNames() {
		takesNothing(t, bad, 3)
	}
	for _, s := range []impl.NamState{freshNames(), busyNames(), freeing(freshNames(), 0), freeing(busyNames(), 0)} {
		takesNothing(t, s, 0)
		for _, d := range notRegs {
			takesNothing(t, s, d)
		}
	}
}

func TestP41RestoresTheMapping(t *testing.T) {
	for _, s := range manyNames() {
		if len(s.Free) == 0 {
			continue
		}
		for d := 1; d < 8; d++ {
			x, now, old, _ := impl.NamTake(s, d)
			back := undoesTo(t, x, d, old)
			if !slices.Equal(back.Map, s.Map) || !slices.Equal(back.Free, append(slices.Clone(s.Free[1:]), now)) {
				t.Fatalf("NamBack(%v, %d, %d, %d) = %v", x, d, now, old, back)
			}
			readsAs(t, back, s, -1)
		}
	}
}

func TestP41ValuesPutMeanwhile(t *testing.T) {
	for _, s := range manyNames() {
		if len(s.Free) == 0 {
			continue
		}
		for _, n := range namValues {
			x, now, old, _ := impl.NamTake(s, 3)
			back := undoesTo(t, putsInto(t, x, now, n), 3, old)
			if back.Vals[now] != n || !back.Here[now] {
				t.Fatalf("%v: %d is not %d", back, now, n)
			}
			readsAs(t, back, s, -1)
			// An older instruction may put its result while a younger one has the register.
			back = undoesTo(t, putsInto(t, x, old, n), 3, old)
			reads(t, back, 3, n, true)
			readsAs(t, back, s, 3)
		}
	}
}

func TestP41IntoAnyFreeList(t *testing.T) {
	for many := range 12 {
		for _, s := range []impl.NamState{freeing(freshNames(), many), freeing(busyNames(), many)} {
			for _, old := range looseOnes(s) {
				for d := 1; d < 8; d++ {
					back := undoesTo(t, s, d, old)
					if len(back.Free) != many+1 || back.Free[many] != s.Map[d] {
						t.Fatalf("%v: the free list becomes %v", s, back.Free)
					}
				}
			}
		}
	}
}

func TestP41InvalidArguments(t *testing.T) {
	for _, bad := range invalidNames() {
		undoes(t, bad, 3, 8, 3, impl.NamState{})
		undoes(t, bad, 3, 3, 5, impl.NamState{})
	}
	for _, s := range []impl.NamState{freeing(freshNames(), 5), busyNames(), freeing(busyNames(), 0), freeing(busyNames(), 12)} {
		loose := append(looseOnes(s), 13)[0]
		for d := range 8 {
			for p := range 20 {
				if p != s.Map[d] || d == 0 {
					undoes(t, s, d, p, loose, impl.NamState{})
				}
			}
			for _, old := range append(append(slices.Clone(s.Map), s.Free...), notPhys...) {
				undoes(t, s, d, s.Map[d], old, impl.NamState{})
			}
			for _, now := range notPhys {
				undoes(t, s, d, now, loose, impl.NamState{})
			}
		}
		for _, d := range notRegs {
			undoes(t, s, d, s.Map[3], loose, impl.NamState{})
			undoes(t, s, d, d, loose, impl.NamState{})
		}
	}
}

// taken is what one allocation returns.
type taken struct {
	d, now, old int
}

// takeAll allocates for these registers, one after the other.
func takeAll(t *testing.T, s impl.NamState, ds []int) (impl.NamState, []taken) {
	t.Helper()
	out := []taken{}
	for _, d := range ds {
		x, now, old, ok := impl.NamTake(s, d)
		if !ok || !impl.NamOk(x) {
			t.Fatalf("NamTake(%v, %d) = %v, %d, %d, %v", s, d, x, now, old, ok)
		}
		s, out = x, append(out, taken{d, now, old})
	}
	return s, out
}

// comesBack checks that the state is as before after allocations for these registers and their undoing in reverse order.
func comesBack(t *testing.T, s impl.NamState, ds []int) {
	t.Helper()
	x, all := takeAll(t, s, ds)
	slices.Reverse(all)
	free := slices.Clone(s.Free[len(ds):])
	for _, one := range all {
		x = undoesTo(t, x, one.d, one.old)
		free = append(free, one.now)
	}
	if !slices.Equal(x.Map, s.Map) || !slices.Equal(x.Free, free) || len(free) != len(s.Free) {
		t.Fatalf("%v becomes %v after allocations for %v and back", s, x, ds)
	}
	readsAs(t, x, s, -1)
}

func TestP42AllAreUndone(t *testing.T) {
	r := newRandom()
	for _, s := range manyNames() {
		for range 5 {
			ds := []int{}
			for range len(s.Free) {
				ds = append(ds, 1+r.IntN(7))
			}
			comesBack(t, s, ds)
			comesBack(t, s, ds[:r.IntN(len(ds)+1)])
		}
	}
}

func TestP42OneRegisterManyTimes(t *testing.T) {
	for _, s := range manyNames() {
		for d := 1; d < 8; d++ {
			comesBack(t, s, slices.Repeat([]int{d}, len(s.Free)))
		}
	}
	comesBack(t, impl.NamNew(), []int{3, 5, 3})
	comesBack(t, impl.NamNew(), []int{1, 2, 3, 4, 5, 6, 7, 1, 2, 3, 4, 5})
}

func TestP42OtherOrders(t *testing.T) {
	x, all := takeAll(t, impl.NamNew(), []int{3, 5, 3})
	undoes(t, x, all[0].d, all[0].now, all[0].old, impl.NamState{})
	x = undoesTo(t, x, 5, all[1].old)
	x = undoesTo(t, x, 3, all[2].old)
	// The second allocation is undone now, and cannot be once more.
	undoes(t, x, all[2].d, all[2].now, all[2].old, impl.NamState{})
	x = undoesTo(t, x, 3, all[0].old)
	want := freshNames()
	want.Free = []int{11, 12, 13, 14, 15, 16, 17, 18, 19, 9, 10, 8}
	for _, p := range []int{8, 9, 10} {
		want.Here[p] = false
	}
	if !sameNames(x, want) {
		t.Fatalf("%v, want %v", x, want)
	}
}

func TestP43PutsAWord(t *testing.T) {
	for _, s := range manyNames() {
		for p := 1; p < 20; p++ {
			for _, n := range namValues {
				x := putsInto(t, s, p, n)
				d := slices.Index(s.Map, p)
				if d > 0 {
					reads(t, x, d, n, true)
				}
				readsAs(t, x, s, d)
			}
		}
	}
}

func TestP43EveryWord(t *testing.T) {
	s, now, _, _ := impl.NamTake(busyNames(), 6)
	for n := range impl.WrdTop {
		if x := impl.NamPut(s, now, n); x.Vals[now] != n || !x.Here[now] {
			t.Fatalf("NamPut(%v, %d, %d) = %v", s, now, n, x)
		}
	}
}

func TestP43TheLastWordCounts(t *testing.T) {
	s := impl.NamNew()
	for _, n := range []int{5, 65535, 0, 0, 7} {
		s = putsInto(t, s, 4, n)
		reads(t, s, 4, n, true)
	}
}

func TestP43InvalidArguments(t *testing.T) {
	for _, bad := range invalidNames() {
		puts(t, bad, 3, 77, impl.NamState{})
		puts(t, bad, 8, 0, impl.NamState{})
	}
	for _, s := range []impl.NamState{freshNames(), busyNames(), freeing(busyNames(), 0)} {
		for _, n := range append(slices.Clone(namValues), notWords...) {
			puts(t, s, 0, n, impl.NamState{})
			for _, p := range notPhys {
				puts(t, s, p, n, impl.NamState{})
			}
		}
		for p := range 20 {
			for _, n := range notWords {
				puts(t, s, p, n, impl.NamState{})
			}
		}
	}
}

func TestP44EveryPhysicalRegister(t *testing.T) {
	for _, s := range manyNames() {
		for p := range 20 {
			if slices.Contains(looseOnes(s), p) {
				readsAs(t, freesLast(t, s, p), s, -1)
			} else {
				frees(t, s, p, impl.NamState{})
			}
		}
	}
}

func TestP44FromEmptyToFull(t *testing.T) {
	s := freeing(freshNames(), 0)
	order := []int{13, 8, 19, 10, 9, 18, 11, 14, 12, 17, 15, 16}
	for k, p := range order {
		s = freesLast(t, s, p)
		if !slices.Equal(s.Free, order[:k+1]) {
			t.Fatalf("the free list is %v, want %v", s.Free, order[:k+1])
		}
		frees(t, s, p, impl.NamState{})
	}
	for k, p := range order {
		if s = takesFirst(t, s, 1+k%7); s.Map[1+k%7] != p {
			t.Fatalf("%v, want %d in %d", s, p, 1+k%7)
		}
	}
}

func TestP44OnlyThePreviousOneIsFreed(t *testing.T) {
	s, now, old, _ := impl.NamTake(impl.NamNew(), 3)
	frees(t, s, now, impl.NamState{})
	s = freesLast(t, s, old)
	frees(t, s, old, impl.NamState{})
	frees(t, s, s.Free[0], impl.NamState{})
}

func TestP44InvalidArguments(t *testing.T) {
	for _, bad := range invalidNames() {
		for _, p := range []int{5, 8, 16} {
			frees(t, bad, p, impl.NamState{})
		}
	}
	for _, s := range []impl.NamState{freshNames(), busyNames(), freeing(freshNames(), 0)} {
		frees(t, s, 0, impl.NamState{})
		for _, p := range notPhys {
			frees(t, s, p, impl.NamState{})
		}
	}
}

func TestP45EveryRegister(t *testing.T) {
	for _, s := range manyNames() {
		reads(t, s, 0, 0, true)
		readsAs(t, s, s, -1)
	}
	s := busyNames()
	for d, want := range []int{0, 65535, 0, 1003, 1012, 1019, 1001, 1008} {
		reads(t, s, d, want, d != 1 && d != 3 && d != 4)
	}
}

func TestP45NotAvailable(t *testing.T) {
	for d := 1; d < 8; d++ {
		for _, n := range namValues {
			s := changedNames(impl.NamNew(), func(x *impl.NamState) { x.Vals[d], x.Here[d] = n, false })
			reads(t, s, d, n, false)
			s = changedNames(impl.NamNew(), func(x *impl.NamState) { x.Vals[8] = n })
			s = takesFirst(t, s, d)
			reads(t, s, d, n, false)
			reads(t, putsInto(t, s, 8, 9), d, 9, true)
		}
	}
}

func TestP45InvalidArguments(t *testing.T) {
	for _, bad := range invalidNames() {
		for d := range 8 {
			reads(t, bad, d, 0, false)
		}
	}
	for _, s := range []impl.NamState{freshNames(), busyNames()} {
		for _, d := range notRegs {
			reads(t, s, d, 0, false)
		}
	}
}

func TestP46TakeWriteAndFree(t *testing.T) {
	for _, s := range manyNames() {
		if len(s.Free) == 0 {
			continue
		}
		for d := 1; d < 8; d++ {
			for _, n := range namValues {
				x, now, old, _ := impl.NamTake(s, d)
				x = freesLast(t, putsInto(t, x, now, n), old)
				reads(t, x, d, n, true)
				readsAs(t, x, s, d)
				if !slices.Equal(x.Free, append(slices.Clone(s.Free[1:]), old)) {
					t.Fatalf("%v: the free list becomes %v", s, x.Free)
				}
			}
		}
	}
}

func TestP46LongLives(t *testing.T) {
	r := newRandom()
	for least := 1; least < 13; least++ {
		s := freeing(impl.NamNew(), least)
		regs := make([]int, 8)
		for range 300 {
			d, n := 1+r.IntN(7), r.IntN(impl.WrdTop)
			x, now, old, ok := impl.NamTake(s, d)
			s = impl.NamFree(impl.NamPut(x, now, n), old)
			regs[d] = n
			if !ok || len(s.Free) != least || !impl.NamOk(s) {
				t.Fatalf("%v after a write to %d", s, d)
			}
			for k, want := range regs {
				reads(t, s, k, want, true)
			}
		}
	}
}

func TestP46AnyOrder(t *testing.T) {
	r := newRandom()
	for range 300 {
		s, open := randomNames(r, 0), []taken{}
		for range 60 {
			switch many := len(open); {
			case len(s.Free) > 0 && r.IntN(2) == 0:
				d := 1 + r.IntN(7)
				open = append(open, taken{d, s.Free[0], s.Map[d]})
				s = takesFirst(t, s, d)
			case many > 0 && r.IntN(2) == 0:
				s = undoesTo(t, s, open[many-1].d, open[many-1].old)
				open = open[:many-1]
			case many > 0:
				s = freesLast(t, putsInto(t, s, open[0].now, r.IntN(impl.WrdTop)), open[0].old)
				open = open[1:]
			}
		}
	}
}

// roomyNames is the same state with spare capacity behind every slice.
func roomyNames(s impl.NamState) impl.NamState {
	return impl.NamState{Map: withRoom(s.Map), Free: withRoom(s.Free), Vals: withRoom(s.Vals), Here: withRoom(s.Here)}
}

// wholeNames is all memory of a state, spare capacity included, as a state.
func wholeNames(s impl.NamState) impl.NamState {
	return impl.NamState{Map: s.Map[:cap(s.Map)], Free: s.Free[:cap(s.Free)], Vals: s.Vals[:cap(s.Vals)], Here: s.Here[:cap(s.Here)]}
}

// spoilNames writes to all memory of a state.
func spoilNames(s impl.NamState) {
	all := wholeNames(s)
	spoilWords(all.Map)
	spoilWords(all.Free)
	spoilWords(all.Vals)
	for k := range all.Here {
		all.Here[k] = !all.Here[k]
	}
}

// ownSlices checks that no two slices of one result share memory.
func ownSlices(t *testing.T, call func() impl.NamState) {
	t.Helper()
	want := call()
	for _, empty := range []func(*impl.NamState) *[]int{
		func(s *impl.NamState) *[]int { return &s.Map },
		func(s *impl.NamState) *[]int { return &s.Free },
		func(s *impl.NamState) *[]int { return &s.Vals },
	} {
		got, rest := call(), copiedNames(want)
		one := empty(&got)
		spoilWords((*one)[:cap(*one)])
		*one, *empty(&rest) = nil, nil
		if !sameNames(got, rest) {
			t.Fatalf("%v: two slices share memory", want)
		}
	}
}

// namesApart checks that results share no memory with the argument, and that the slices of one share none with each other.
func namesApart(t *testing.T, s impl.NamState, call func(impl.NamState) impl.NamState) {
	t.Helper()
	handling[impl.NamState]{sameNames, copiedNames, roomyNames, wholeNames, spoilNames}.apart(t, s, call)
	ownSlices(t, func() impl.NamState { return call(roomyNames(s)) })
}

func TestP40ResultsShareNoMemory(t *testing.T) {
	for _, s := range manyNames() {
		for d := 1; d < 8; d++ {
			namesApart(t, s, func(s impl.NamState) impl.NamState {
				x, _, _, _ := impl.NamTake(s, d)
				return x
			})
		}
	}
}

func TestP41ResultsShareNoMemory(t *testing.T) {
	for _, s := range manyNames() {
		for _, old := range looseOnes(s) {
			for d := 1; d < 8; d++ {
				namesApart(t, s, func(s impl.NamState) impl.NamState { return impl.NamBack(s, d, s.Map[d], old) })
			}
		}
	}
}

func TestP43ResultsShareNoMemory(t *testing.T) {
	for _, s := range manyNames() {
		for p := 1; p < 20; p++ {
			namesApart(t, s, func(s impl.NamState) impl.NamState { return impl.NamPut(s, p, 77) })
		}
	}
}

func TestP44ResultsShareNoMemory(t *testing.T) {
	for _, s := range manyNames() {
		for _, p := range looseOnes(s) {
			namesApart(t, s, func(s impl.NamState) impl.NamState { return impl.NamFree(s, p) })
		}
	}
}
