package tests

import (
	"slices"
	"strings"

	"loop.example/harbinger/impl"
)

// model is a core that does the steps of a cycle one sentence of the specification after the other, by the exported functions of the layers below.
type model struct {
	impl.CorState
	events []impl.PlnEvent
}

// modelled is what a cycle of a valid core should come to.
func modelled(s impl.CorState, in impl.CorIn) (impl.CorState, []impl.PlnEvent) {
	m := &model{CorState: copiedCore(s)}
	if in.Lay {
		m.lay(in.At, in.N)
	}
	m.retire(in.Ring)
	for _, pick := range in.Picks {
		m.execute(pick)
	}
	m.rename()
	m.fetch()
	return m.CorState, m.events
}

// mappingAt is the mapping before the entry with that index.
func mappingAt(s impl.CorState, index int) []int {
	out := slices.Clone(s.Nam.Map)
	for d := range out {
		for _, it := range s.Rob[index:] {
			if it.D == d && d > 0 {
				out[d] = it.Old
				break
			}
		}
	}
	return out
}

// architecture is the architectural state of a valid core.
func architecture(s impl.CorState) impl.PlnState {
	out := impl.PlnState{Pc: s.Pc, Ctl: slices.Clone(s.Ctl), Mem: visibleWords(s.Chc)}
	if len(s.Fetched) > 0 {
		out.Pc = s.Fetched[0].Pc
	}
	if len(s.Rob) > 0 {
		out.Pc = s.Rob[0].Took.Pc
	}
	for _, p := range mappingAt(s, 0) {
		out.Regs = append(out.Regs, s.Nam.Vals[p])
	}
	return out
}

// inTable reports whether an address is in the active page table.
func inTable(s impl.CorState, at int) bool {
	return s.Ctl[impl.CtlHow]%2 == 1 && at-s.Ctl[impl.CtlTab] >= 0 && at-s.Ctl[impl.CtlTab] <= 15
}

func (m *model) squash(from int, pc int) {
	for len(m.Rob) > from {
		it := m.Rob[len(m.Rob)-1]
		m.Rob = m.Rob[:len(m.Rob)-1]
		if it.D > 0 {
			m.Nam = impl.NamBack(m.Nam, it.D, it.New, it.Old)
		}
	}
	m.Fetched, m.Stop, m.Pc = nil, false, pc
}

func (m *model) trap(w int, why int) {
	pc := architecture(m.CorState).Pc
	m.Ctl[impl.CtlWas], m.Ctl[impl.CtlWhy] = pc, why
	m.Ctl[impl.CtlHow] = m.Ctl[impl.CtlHow] % 2 * 2
	m.squash(0, 8)
	m.events = append(m.events, impl.PlnEvent{Pc: pc, Word: w, Why: why, Addr: -1})
}

func (m *model) lay(at int, n int) {
	m.Chc = impl.ChcLay(m.Chc, at, n)
	if inTable(m.CorState, at) {
		m.squash(0, architecture(m.CorState).Pc)
		return
	}
	for k, it := range m.Rob {
		loaded := it.Inst.Kind == impl.CodLoad && it.Done && it.Addr == at && it.From == -1
		if it.Took.At == at || loaded {
			m.squash(k, it.Took.Pc)
			return
		}
	}
	for _, f := range m.Fetched {
		if f.At == at {
			m.squash(len(m.Rob), m.Fetched[0].Pc)
			return
		}
	}
}

func (m *model) retire(ring bool) {
	if ring && m.Ctl[impl.CtlHow]%2 == 1 {
		m.trap(-1, impl.WhyRing)
		return
	}
	for range 2 {
		if len(m.Rob) == 0 {
			return
		}
		h := m.Rob[0]
		if h.Why != 0 {
			m.trap(h.Took.Word, h.Why)
			return
		}
		if isAlone(h.Inst) {
			if !m.alone(h) {
				return
			}
			continue
		}
		if !h.Done {
			return
		}
		m.finish(h)
	}
}

// remove retires the oldest entry with that value, and that word written to that address, if any.
func (m *model) remove(h impl.RobItem, val int, addr int, data int) {
	m.Rob = m.Rob[1:]
	if h.D > 0 {
		m.Nam = impl.NamFree(m.Nam, h.Old)
	}
	for k, it := range m.Rob {
		if it.From == h.No {
			m.Rob[k].From = -1
		}
	}
	if addr >= 0 {
		m.Chc = impl.ChcWrite(m.Chc, addr, data)
	}
	m.events = append(m.events, impl.PlnEvent{Pc: h.Took.Pc, Word: h.Took.Word, D: h.D, Val: val, Addr: addr, Data: data})
}

func (m *model) finish(h impl.RobItem) {
	val := 0
	if h.D > 0 {
		val = m.Nam.Vals[h.New]
	}
	switch h.Inst.Kind {
	case impl.CodSave:
		m.remove(h, val, h.Addr, h.Data)
		hit := inTable(m.CorState, h.Addr)
		for _, it := range m.Rob {
			hit = hit || it.Took.At == h.Addr
		}
		for _, f := range m.Fetched {
			hit = hit || f.At == h.Addr
		}
		if hit {
			m.squash(0, h.Next)
		}
		return
	case impl.CodEq, impl.CodLt, impl.CodJump, impl.CodCall:
		m.Gue = impl.GueLearn(m.Gue, h.Took.Pc, h.Next)
	}
	m.remove(h, val, -1, 0)
}

// alone executes an entry at the head, and reports whether the next one may follow.
func (m *model) alone(h impl.RobItem) bool {
	p := architecture(m.CorState)
	next, val, addr, data := (p.Pc+1)%65536, 0, -1, 0
	a, b := p.Regs[h.Inst.A], p.Regs[h.Inst.B]
	kind := h.Inst.Kind
	privileged := kind == impl.CodBack || kind == impl.CodGet || kind == impl.CodSet
	if privileged && p.Ctl[impl.CtlHow]%2 == 1 {
		m.trap(h.Took.Word, impl.WhyMay)
		return false
	}
	switch kind {
	case impl.CodSys:
		m.trap(h.Took.Word, impl.WhySys+16*h.Inst.N)
		return false
	case impl.CodSwap:
		addr = impl.PagSee(p, a, true)
		if addr < 0 {
			m.trap(h.Took.Word, impl.WhySave)
			return false
		}
		val, data = p.Mem[addr], b
	case impl.CodBack:
		next = p.Ctl[impl.CtlWas]
		m.Ctl[impl.CtlHow] = p.Ctl[impl.CtlHow] / 2
	case impl.CodGet:
		val = p.Ctl[h.Inst.F]
	case impl.CodSet:
		m.Ctl[h.Inst.F] = a
		if h.Inst.F == impl.CtlHow {
			m.Ctl[h.Inst.F] = a & 2
		}
	}
	if h.D > 0 {
		m.Nam = impl.NamPut(m.Nam, h.New, val)
	} else {
		val = 0
	}
	m.remove(h, val, addr, data)
	if kind == impl.CodGet && h.Took.Guess == next {
		return true
	}
	m.squash(0, next)
	return false
}

// readyOnes are the indices of the entries that may be executed.
func readyOnes(s impl.CorState) []int {
	out := []int{}
	for k, it := range s.Rob {
		if it.Done || it.Why != 0 || isAlone(it.Inst) {
			continue
		}
		if (it.A < 0 || s.Nam.Here[it.A]) && (it.B < 0 || s.Nam.Here[it.B]) {
			out = append(out, k)
		}
	}
	return out
}

func (m *model) execute(pick int) {
	ready := readyOnes(m.CorState)
	if len(ready) == 0 {
		return
	}
	k := ready[pick%len(ready)]
	it := &m.Rob[k]
	a, b := 0, 0
	if it.A >= 0 {
		a = m.Nam.Vals[it.A]
	}
	if it.B >= 0 {
		b = m.Nam.Vals[it.B]
	}
	c := it.Inst
	next, to := (it.Took.Pc+1)%65536, (it.Took.Pc+1+c.N+65536)%65536
	val := 0
	switch c.Kind {
	case impl.CodAlu:
		val = impl.AluDo(c.F, a, b)
	case impl.CodMul:
		val = impl.MulDo(a, b)
	case impl.CodAddi:
		val = (a + c.N + 65536) % 65536
	case impl.CodLui:
		val = c.N << 7
	case impl.CodEq:
		if a == b {
			next = to
		}
	case impl.CodLt:
		if impl.WrdInt(a) < impl.WrdInt(b) {
			next = to
		}
	case impl.CodJump:
		val, next = next, to
	case impl.CodCall:
		val, next = next, (a+c.N+65536)%65536
	case impl.CodLoad, impl.CodSave:
		addr := impl.PagSee(architecture(m.CorState), (a+c.N+65536)%65536, c.Kind == impl.CodSave)
		if addr < 0 {
			it.Done, it.Why = true, c.Kind-impl.CodLoad+impl.WhyLoad
			return
		}
		it.Addr = addr
		if c.Kind == impl.CodLoad {
			val, it.From = m.load(k, addr)
		} else {
			it.Data = b
		}
	}
	it.Done, it.Next = true, next
	if it.D > 0 {
		m.Nam = impl.NamPut(m.Nam, it.New, val)
	}
	if c.Kind == impl.CodSave {
		m.violate(k)
	}
	if next != it.Took.Guess {
		it.Took.Guess = next
		m.squash(k+1, next)
	}
}

// load is the value of a load, and where it comes from.
func (m *model) load(k int, addr int) (int, int) {
	for j := k - 1; j >= 0; j-- {
		if it := m.Rob[j]; it.Inst.Kind == impl.CodSave && it.Done && it.Why == 0 && it.Addr == addr {
			return it.Data, it.No
		}
	}
	val := 0
	m.Chc, val = impl.ChcRead(m.Chc, addr)
	return val, -1
}

// violate squashes the loads that were executed ahead of a store and should have received its data.
func (m *model) violate(k int) {
	for j := k + 1; j < len(m.Rob); j++ {
		it := m.Rob[j]
		if it.Inst.Kind == impl.CodLoad && it.Done && it.Why == 0 && it.Addr == m.Rob[k].Addr && it.From < m.Rob[k].No {
			m.squash(j, it.Took.Pc)
			return
		}
	}
}

func (m *model) rename() {
	for range 2 {
		if len(m.Fetched) == 0 || len(m.Rob) >= 8 {
			return
		}
		f := m.Fetched[0]
		it := impl.RobItem{Took: f, No: m.Nos, A: -1, B: -1, New: -1, Old: -1, Addr: -1, From: -1}
		c, ok := impl.CodRead(f.Word)
		switch {
		case f.Why != 0:
			it.Why = impl.WhyTake
		case !ok:
			it.Why = impl.WhyCode
		default:
			it.Inst, it.D = c, c.D
			if strings.ContainsRune(forms[c.Kind].bits, 'A') {
				it.A = m.Nam.Map[c.A]
			}
			if strings.ContainsRune(forms[c.Kind].bits, 'B') {
				it.B = m.Nam.Map[c.B]
			}
		}
		if it.D > 0 {
			m.Nam, it.New, it.Old, ok = impl.NamTake(m.Nam, it.D)
			if !ok {
				return
			}
		}
		m.Rob = append(m.Rob, it)
		m.Fetched = m.Fetched[1:]
		m.Nos++
	}
}

func (m *model) fetch() {
	for range 2 {
		if m.Stop || len(m.Fetched) >= 4 {
			return
		}
		f := impl.FchItem{Pc: m.Pc, Word: -1, At: impl.PagSee(architecture(m.CorState), m.Pc, false)}
		if f.At < 0 {
			f.Why, f.Guess, m.Stop = impl.WhyTake, (m.Pc+1)%65536, true
		} else {
			f.Word = impl.ChcLook(m.Chc, f.At)
			f.Guess = impl.GueNext(m.Gue, m.Pc, f.Word)
			m.Gue = impl.GueSeen(m.Gue, m.Pc, f.Word)
			m.Pc = f.Guess
		}
		m.Fetched = append(m.Fetched, f)
	}
}
