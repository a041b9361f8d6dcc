package tests

import (
	"math"
	"slices"
	"strings"
	"testing"

	"loop.example/harbinger/impl"
)

// form describes a kind independently of the program: the bits of its words behind the kind, where a letter belongs to the field of that name and a 0 to none.
type form struct {
	kind int
	bits string
	// many is how many values F has, plain whether N has no sign.
	many  int
	plain bool
}

var forms = []form{
	{kind: impl.CodAlu, bits: "DDDAAABBBFFF", many: 8},
	{kind: impl.CodAddi, bits: "DDDAAANNNNNN"},
	{kind: impl.CodLui, bits: "DDDNNNNNNNNN", plain: true},
	{kind: impl.CodLoad, bits: "DDDAAANNNNNN"},
	{kind: impl.CodSave, bits: "AAABBBNNNNNN"},
	{kind: impl.CodEq, bits: "AAABBBNNNNNN"},
	{kind: impl.CodLt, bits: "AAABBBNNNNNN"},
	{kind: impl.CodJump, bits: "DDDNNNNNNNNN"},
	{kind: impl.CodCall, bits: "DDDAAANNNNNN"},
	{kind: impl.CodMul, bits: "DDDAAABBB000"},
	{kind: impl.CodSwap, bits: "DDDAAABBB000"},
	{kind: impl.CodWait, bits: "000000000000"},
	{kind: impl.CodSys, bits: "NNNNNNNNN000", plain: true},
	{kind: impl.CodBack, bits: "000000000000"},
	{kind: impl.CodGet, bits: "DDDFFF000000", many: 5},
	{kind: impl.CodSet, bits: "AAAFFF000000", many: 5},
}

// notKinds are numbers that name none of the sixteen kinds.
var notKinds = []int{math.MinInt, -16, -2, -1, 16, 17, 32, 256, impl.WrdTop, math.MaxInt}

// far are values that no field has.
var far = []int{math.MinInt, -impl.WrdTop, -1000, 1000, impl.WrdTop, math.MaxInt}

const fieldNames = "DABFN"

// field is the place of the field with that name.
func field(c *impl.CodInst, name rune) *int {
	switch name {
	case 'D':
		return &c.D
	case 'A':
		return &c.A
	case 'B':
		return &c.B
	case 'F':
		return &c.F
	}
	return &c.N
}

// changed is the instruction with another value in one field.
func changed(c impl.CodInst, name rune, value int) impl.CodInst {
	*field(&c, name) = value
	return c
}

// limits are the least and the greatest value that a field of the kind has; both are 0 if the kind does not have it.
func (f form) limits(name rune) (int, int) {
	width := strings.Count(f.bits, string(name))
	switch {
	case width == 0:
		return 0, 0
	case name == 'F':
		return 0, f.many - 1
	case name == 'N' && !f.plain:
		return -1 << (width - 1), 1<<(width-1) - 1
	}
	return 0, 1<<width - 1
}

// every has all instructions of the kind.
func (f form) every() []impl.CodInst {
	out := []impl.CodInst{{Kind: f.kind}}
	for _, name := range fieldNames {
		least, greatest := f.limits(name)
		wider := []impl.CodInst{}
		for _, c := range out {
			for value := least; value <= greatest; value++ {
				wider = append(wider, changed(c, name, value))
			}
		}
		out = wider
	}
	return out
}

// wordOf writes a valid instruction bit by bit, from the least significant one on.
func (f form) wordOf(c impl.CodInst) int {
	out, weight := 0, 1
	for _, letter := range slices.Backward([]rune(f.bits)) {
		if letter != '0' {
			value := field(&c, letter)
			out += weight * (*value & 1)
			*value >>= 1
		}
		weight *= 2
	}
	return weight*f.kind + out
}

// everyInstruction has all valid instructions with their words.
func everyInstruction() map[impl.CodInst]int {
	out := map[impl.CodInst]int{}
	for _, f := range forms {
		for _, c := range f.every() {
			out[c] = f.wordOf(c)
		}
	}
	return out
}

// invalidInstructions has, for every kind, instructions of which one field is out of its range, and instructions of no kind.
func invalidInstructions() []impl.CodInst {
	out := []impl.CodInst{}
	for _, f := range forms {
		all := f.every()
		for _, c := range []impl.CodInst{all[0], all[len(all)/2], all[len(all)-1], {Kind: f.kind}} {
			for _, name := range fieldNames {
				least, greatest := f.limits(name)
				for _, value := range append([]int{least - 1, greatest + 1, least - 8, greatest + 8}, far...) {
					out = append(out, changed(c, name, value))
				}
			}
		}
	}
	for _, kind := range notKinds {
		out = append(out, impl.CodInst{Kind: kind}, impl.CodInst{Kind: kind, D: 1, A: 2, B: 3}, impl.CodInst{Kind: kind, D: 1, A: 2, N: 3})
	}
	return out
}

// valid fails the test unless CodOk has the wanted result.
func valid(t *testing.T, c impl.CodInst, want bool) {
	t.Helper()
	if got := impl.CodOk(c); got != want {
		t.Fatalf("CodOk(%+v) = %t", c, got)
	}
}

// noInstruction fails the test unless the word encodes none.
func noInstruction(t *testing.T, w int) {
	t.Helper()
	if c, ok := impl.CodRead(w); ok || c != (impl.CodInst{}) {
		t.Fatalf("CodRead(%d) = %+v, %t", w, c, ok)
	}
}

// uses fails the test unless the instruction has just these operands.
func uses(t *testing.T, c impl.CodInst, want ...int) {
	t.Helper()
	if got := impl.CodUses(c); !slices.Equal(got, want) {
		t.Fatalf("CodUses(%+v) = %v, want %v", c, got, want)
	}
}

func TestCodeConstants(t *testing.T) {
	for want, f := range forms {
		if f.kind != want {
			t.Fatalf("kind %d has the number %d", want, f.kind)
		}
	}
	if impl.RegMany != 8 || impl.CtlMany != 5 {
		t.Fatal("RegMany, CtlMany:", impl.RegMany, impl.CtlMany)
	}
}

func TestP17KindsHaveTheirFields(t *testing.T) {
	for _, f := range forms {
		valid(t, impl.CodInst{Kind: f.kind}, true)
		for _, c := range f.every() {
			valid(t, c, true)
		}
	}
}

func TestP17FieldsOfOtherKinds(t *testing.T) {
	for _, f := range forms {
		for _, c := range f.every() {
			for _, name := range fieldNames {
				if strings.ContainsRune(f.bits, name) {
					continue
				}
				valid(t, changed(c, name, 1), false)
				valid(t, changed(c, name, -1), false)
				valid(t, changed(c, name, 7), false)
			}
		}
	}
}

func TestP17LimitsOfFields(t *testing.T) {
	for _, x := range []struct {
		kind  int
		name  rune
		value int
		want  bool
	}{
		{impl.CodAddi, 'N', -33, false}, {impl.CodAddi, 'N', -32, true}, {impl.CodAddi, 'N', -1, true}, {impl.CodAddi, 'N', 31, true}, {impl.CodAddi, 'N', 32, false},
		{impl.CodSave, 'N', -33, false}, {impl.CodSave, 'N', -32, true}, {impl.CodSave, 'N', 31, true}, {impl.CodSave, 'N', 32, false},
		{impl.CodJump, 'N', -257, false}, {impl.CodJump, 'N', -256, true}, {impl.CodJump, 'N', -1, true}, {impl.CodJump, 'N', 255, true}, {impl.CodJump, 'N', 256, false},
		{impl.CodLui, 'N', -256, false}, {impl.CodLui, 'N', -1, false}, {impl.CodLui, 'N', 0, true}, {impl.CodLui, 'N', 511, true}, {impl.CodLui, 'N', 512, false},
		{impl.CodSys, 'N', -256, false}, {impl.CodSys, 'N', -1, false}, {impl.CodSys, 'N', 0, true}, {impl.CodSys, 'N', 511, true}, {impl.CodSys, 'N', 512, false},
		{impl.CodAlu, 'F', -1, false}, {impl.CodAlu, 'F', 7, true}, {impl.CodAlu, 'F', 8, false},
		{impl.CodGet, 'F', -1, false}, {impl.CodGet, 'F', impl.CtlMany - 1, true}, {impl.CodGet, 'F', impl.CtlMany, false}, {impl.CodGet, 'F', 7, false},
		{impl.CodSet, 'F', -1, false}, {impl.CodSet, 'F', impl.CtlMany - 1, true}, {impl.CodSet, 'F', impl.CtlMany, false}, {impl.CodSet, 'F', 7, false},
		{impl.CodAlu, 'D', impl.RegMany - 1, true}, {impl.CodAlu, 'D', impl.RegMany, false}, {impl.CodAlu, 'A', impl.RegMany, false}, {impl.CodAlu, 'B', impl.RegMany, false},
		{impl.CodMul, 'D', -1, false}, {impl.CodMul, 'A', -1, false}, {impl.CodMul, 'B', -1, false}, {impl.CodWait, 'D', 1, false}, {impl.CodBack, 'N', 1, false},
	} {
		valid(t, changed(impl.CodInst{Kind: x.kind}, x.name, x.value), x.want)
	}
	for _, f := range forms {
		for _, name := range fieldNames {
			least, greatest := f.limits(name)
			for value := -1100; value <= 1100; value++ {
				valid(t, changed(impl.CodInst{Kind: f.kind}, name, value), value >= least && value <= greatest)
			}
		}
	}
}

func TestP17InvalidInstructions(t *testing.T) {
	for _, c := range invalidInstructions() {
		valid(t, c, false)
	}
}

func TestP18Words(t *testing.T) {
	for _, x := range []struct {
		c    impl.CodInst
		want int
	}{
		{impl.CodInst{}, 0},
		{impl.CodInst{Kind: impl.CodAlu, D: 7, A: 7, B: 7, F: 7}, 0x0fff},
		{impl.CodInst{Kind: impl.CodAlu, D: 1, A: 2, B: 3, F: impl.AluXor}, 0x029c},
		{impl.CodInst{Kind: impl.CodAddi, D: 1, N: -1}, 0x123f},
		{impl.CodInst{Kind: impl.CodAddi, N: -32}, 0x1020},
		{impl.CodInst{Kind: impl.CodAddi, N: 31}, 0x101f},
		{impl.CodInst{Kind: impl.CodLui, D: 1, N: 511}, 0x23ff},
		{impl.CodInst{Kind: impl.CodLui, N: 256}, 0x2100},
		{impl.CodInst{Kind: impl.CodLoad, D: 1, A: 2, N: 3}, 0x3283},
		{impl.CodInst{Kind: impl.CodSave, A: 1, B: 2, N: -3}, 0x42bd},
		{impl.CodInst{Kind: impl.CodEq, A: 7, N: 1}, 0x5e01},
		{impl.CodInst{Kind: impl.CodLt, B: 7, N: 1}, 0x61c1},
		{impl.CodInst{Kind: impl.CodJump, D: 7, N: -256}, 0x7f00},
		{impl.CodInst{Kind: impl.CodJump, N: 255}, 0x70ff},
		{impl.CodInst{Kind: impl.CodJump, N: -1}, 0x71ff},
		{impl.CodInst{Kind: impl.CodCall, A: 7, N: 0}, 0x81c0},
		{impl.CodInst{Kind: impl.CodMul, D: 1, A: 2, B: 3}, 0x9298},
		{impl.CodInst{Kind: impl.CodSwap, D: 7, A: 7, B: 7}, 0xaff8},
		{impl.CodInst{Kind: impl.CodWait}, 0xb000},
		{impl.CodInst{Kind: impl.CodSys, N: 511}, 0xcff8},
		{impl.CodInst{Kind: impl.CodSys, N: 1}, 0xc008},
		{impl.CodInst{Kind: impl.CodBack}, 0xd000},
		{impl.CodInst{Kind: impl.CodGet, D: 7, F: 4}, 0xef00},
		{impl.CodInst{Kind: impl.CodSet, A: 1, F: 3}, 0xf2c0},
	} {
		if got := impl.CodWord(x.c); got != x.want {
			t.Fatalf("CodWord(%+v) = %#x, want %#x", x.c, got, x.want)
		}
		if got, ok := impl.CodRead(x.want); !ok || got != x.c {
			t.Fatalf("CodRead(%#x) = %+v, %t, want %+v", x.want, got, ok, x.c)
		}
	}
}

func TestP18EncodingIsExact(t *testing.T) {
	taken := map[int]impl.CodInst{}
	for c, want := range everyInstruction() {
		w := impl.CodWord(c)
		if w != want {
			t.Fatalf("CodWord(%+v) = %#x, want %#x", c, w, want)
		}
		if w>>12 != c.Kind {
			t.Fatalf("CodWord(%+v) = %#x, whose kind is %d", c, w, w>>12)
		}
		if other, ok := taken[w]; ok {
			t.Fatalf("CodWord(%+v) = CodWord(%+v) = %#x", c, other, w)
		}
		taken[w] = c
	}
	for w := range impl.WrdTop {
		c, ok := taken[w]
		if !ok {
			noInstruction(t, w)
			continue
		}
		got, ok := impl.CodRead(w)
		if !ok || got != c {
			t.Fatalf("CodRead(%#x) = %+v, %t, want %+v", w, got, ok, c)
		}
		if !impl.CodOk(got) || impl.CodWord(got) != w {
			t.Fatalf("CodRead(%#x) = %+v, which does not encode as it", w, got)
		}
	}
}

func TestP18InvalidArguments(t *testing.T) {
	for _, c := range invalidInstructions() {
		if got := impl.CodWord(c); got != -1 {
			t.Fatalf("CodWord(%+v) = %d, want -1", c, got)
		}
	}
	for _, n := range notWords {
		noInstruction(t, n)
	}
	// Bits behind the fields, and control registers that there are not.
	for _, w := range []int{0x9001, 0x9004, 0xa001, 0xa007, 0xb001, 0xb800, 0xbfff, 0xc001, 0xc007, 0xcfff, 0xd001, 0xdfff, 0xe001, 0xe020, 0xe140, 0xe1c0, 0xf001, 0xf03f, 0xf140, 0xffff} {
		noInstruction(t, w)
	}
}

func TestP19Operands(t *testing.T) {
	uses(t, impl.CodInst{Kind: impl.CodAlu, D: 1, A: 2, B: 3}, 2, 3)
	uses(t, impl.CodInst{Kind: impl.CodAlu, D: 1, A: 3, B: 2}, 2, 3)
	uses(t, impl.CodInst{Kind: impl.CodAlu, D: 1, A: 3, B: 3}, 3)
	uses(t, impl.CodInst{Kind: impl.CodMul, D: 1, A: 0, B: 7}, 7)
	uses(t, impl.CodInst{Kind: impl.CodMul, D: 1, A: 7, B: 0}, 7)
	uses(t, impl.CodInst{Kind: impl.CodSwap, D: 1})
	uses(t, impl.CodInst{Kind: impl.CodSave, A: 7, B: 1, N: -4}, 1, 7)
	uses(t, impl.CodInst{Kind: impl.CodEq, A: 7, B: 7}, 7)
	uses(t, impl.CodInst{Kind: impl.CodLoad, D: 4, A: 5}, 5)
	uses(t, impl.CodInst{Kind: impl.CodCall, D: 4})
	uses(t, impl.CodInst{Kind: impl.CodSet, A: 6, F: 4}, 6)
	for _, c := range []impl.CodInst{{Kind: impl.CodLui, D: 3, N: 5}, {Kind: impl.CodJump, D: 3, N: 5}, {Kind: impl.CodWait}, {Kind: impl.CodSys, N: 3}, {Kind: impl.CodBack}, {Kind: impl.CodGet, D: 3, F: 2}} {
		uses(t, c)
	}
}

func TestP19OperandsAscendWithoutRegister0(t *testing.T) {
	for c := range everyInstruction() {
		want := []int{}
		for r := 1; r < impl.RegMany; r++ {
			if c.A == r || c.B == r {
				want = append(want, r)
			}
		}
		uses(t, c, want...)
	}
}

func TestP19OtherFieldsAreNotOperands(t *testing.T) {
	for _, f := range forms {
		for _, c := range f.every() {
			before := impl.CodUses(c)
			for _, name := range "DFN" {
				least, greatest := f.limits(name)
				for _, value := range []int{least, greatest, 0} {
					uses(t, changed(c, name, value), before...)
				}
			}
		}
	}
}

func TestP19DestinationIsARegister(t *testing.T) {
	for c := range everyInstruction() {
		if got := impl.CodGives(c); got != c.D || got < 0 || got >= impl.RegMany {
			t.Fatalf("CodGives(%+v) = %d", c, got)
		}
	}
	for _, c := range []impl.CodInst{{Kind: impl.CodSave, A: 5, B: 6}, {Kind: impl.CodSet, A: 5}, {Kind: impl.CodSys, N: 7}, {Kind: impl.CodAlu, A: 1, B: 2}} {
		if got := impl.CodGives(c); got != 0 {
			t.Fatalf("CodGives(%+v) = %d, want 0", c, got)
		}
	}
}

func TestP19InvalidInstructions(t *testing.T) {
	for _, c := range invalidInstructions() {
		uses(t, c)
		if got := impl.CodGives(c); got != 0 {
			t.Fatalf("CodGives(%+v) = %d, want 0", c, got)
		}
	}
}

func TestP19OperandsAreNewMemory(t *testing.T) {
	c := impl.CodInst{Kind: impl.CodAlu, A: 5, B: 2}
	first := impl.CodUses(c)
	first[0], first[1] = 9, 9
	_ = append(first[:1], 8)
	uses(t, c, 2, 5)
}
