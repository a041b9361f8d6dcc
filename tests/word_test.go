package tests

import (
	"math"
	"testing"

	"loop.example/harbinger/impl"
)

// notWords are numbers on both sides of the words, next to them and far away.
var notWords = []int{math.MinInt, -impl.WrdTop, -impl.WrdTop / 2, -2, -1, impl.WrdTop, impl.WrdTop + 1, 2 * impl.WrdTop, math.MaxInt}

// notOperations are numbers that name none of the eight ALU operations.
var notOperations = []int{math.MinInt, -1, 8, 9, 16, impl.WrdTop, math.MaxInt}

// operations are the eight ALU operations.
var operations = []int{impl.AluAdd, impl.AluSub, impl.AluAnd, impl.AluOr, impl.AluXor, impl.AluLt, impl.AluShl, impl.AluShr}

// sampleWords has the words at which a bit, a sign or a carry changes, and some in between.
func sampleWords() []int {
	out := []int{}
	for bit := range impl.WrdBits {
		power := 1 << bit
		out = append(out, power-1, power, impl.WrdTop-power)
	}
	for w := 2741; w < impl.WrdTop; w += 5479 {
		out = append(out, w)
	}
	return append(out, 0x5555, 0xaaaa, 0x00ff, 0xff00, 17, 30, 33)
}

// alu fails the test unless the operation gives the wanted word.
func alu(t *testing.T, f, a, b, want int) {
	t.Helper()
	if got := impl.AluDo(f, a, b); got != want {
		t.Fatalf("AluDo(%d, %d, %d) = %d, want %d", f, a, b, got, want)
	}
}

// mul fails the test unless the product is the wanted word.
func mul(t *testing.T, a, b, want int) {
	t.Helper()
	if got := impl.MulDo(a, b); got != want {
		t.Fatalf("MulDo(%d, %d) = %d, want %d", a, b, got, want)
	}
}

// reduced is the remainder modulo WrdTop that is not negative.
func reduced(n int) int {
	n %= impl.WrdTop
	if n < 0 {
		n += impl.WrdTop
	}
	return n
}

// bitwise combines two words bit by bit by the table of the operation: its results for 00, 01, 10 and 11.
func bitwise(a, b int, table [4]int) int {
	out, weight := 0, 1
	for range impl.WrdBits {
		out += weight * table[2*(a%2)+b%2]
		a, b, weight = a/2, b/2, 2*weight
	}
	return out
}

func TestWordConstants(t *testing.T) {
	if impl.WrdBits != 16 || impl.WrdTop != 65536 {
		t.Fatal("WrdBits, WrdTop:", impl.WrdBits, impl.WrdTop)
	}
	for want, f := range operations {
		if f != want {
			t.Fatalf("operation %d has the number %d", want, f)
		}
	}
}

func TestP8WordsAre16BitNumbers(t *testing.T) {
	for n := -2 * impl.WrdTop; n <= 3*impl.WrdTop; n++ {
		want := n >= 0 && n <= 65535
		if impl.WrdOk(n) != want {
			t.Fatalf("WrdOk(%d) = %t", n, !want)
		}
	}
	for _, n := range []int{0, 1, 32767, 32768, 65534, 65535} {
		if !impl.WrdOk(n) {
			t.Fatalf("WrdOk(%d) = false", n)
		}
	}
	for _, n := range notWords {
		if impl.WrdOk(n) {
			t.Fatalf("WrdOk(%d) = true", n)
		}
	}
}

func TestP9SignIsTheHighestBit(t *testing.T) {
	for _, x := range [][2]int{{0, 0}, {1, 1}, {32767, 32767}, {32768, -32768}, {32769, -32767}, {65535, -1}} {
		if got := impl.WrdInt(x[0]); got != x[1] {
			t.Fatalf("WrdInt(%d) = %d, want %d", x[0], got, x[1])
		}
	}
	for w := range impl.WrdTop {
		got := impl.WrdInt(w)
		if got != w && got != w-impl.WrdTop {
			t.Fatalf("WrdInt(%d) = %d", w, got)
		}
		if (got < 0) != (w >= impl.WrdTop/2) {
			t.Fatalf("WrdInt(%d) = %d has the wrong sign", w, got)
		}
		if reduced(got) != w {
			t.Fatalf("WrdInt(%d) = %d is not the word modulo WrdTop", w, got)
		}
	}
	for _, n := range notWords {
		if got := impl.WrdInt(n); got != 0 {
			t.Fatalf("WrdInt(%d) = %d, want 0", n, got)
		}
	}
}

func TestP10SignExtensionPreservesTheValue(t *testing.T) {
	for _, x := range [][3]int{
		{0, 1, 0}, {1, 1, 65535}, {1, 2, 1}, {2, 2, 65534}, {31, 6, 31}, {32, 6, 65504}, {63, 6, 65535}, {255, 9, 255}, {256, 9, 65280},
		{0, 16, 0}, {32767, 16, 32767}, {32768, 16, 32768}, {65535, 16, 65535}, {16383, 15, 16383}, {16384, 15, 49152}, {32767, 15, 65535},
	} {
		if got := impl.WrdSign(x[0], x[1]); got != x[2] {
			t.Fatalf("WrdSign(%d, %d) = %d, want %d", x[0], x[1], got, x[2])
		}
	}
	for bits, many := 1, 2; bits <= impl.WrdBits; bits, many = bits+1, 2*many {
		for n := range many {
			value := n
			if n >= many/2 {
				value = n - many
			}
			got := impl.WrdSign(n, bits)
			if !impl.WrdOk(got) || impl.WrdInt(got) != value {
				t.Fatalf("WrdSign(%d, %d) = %d, whose value is not %d", n, bits, got, value)
			}
			if bits == impl.WrdBits && got != n {
				t.Fatalf("WrdSign(%d, %d) = %d", n, bits, got)
			}
		}
	}
}

func TestP10SignExtensionRefuses(t *testing.T) {
	refuse := func(n, bits int) {
		t.Helper()
		if got := impl.WrdSign(n, bits); got != -1 {
			t.Fatalf("WrdSign(%d, %d) = %d, want -1", n, bits, got)
		}
	}
	for bits, many := 1, 2; bits <= impl.WrdBits; bits, many = bits+1, 2*many {
		refuse(many, bits)
		refuse(many+1, bits)
		for _, n := range notWords {
			refuse(n, bits)
		}
	}
	for _, bits := range []int{math.MinInt, -17, -16, -1, 0, 17, 18, 32, 63, 64, 65, math.MaxInt} {
		for _, n := range append([]int{0, 1, 32767, 32768, 65535}, notWords...) {
			refuse(n, bits)
		}
	}
}

func TestP11SubtractionInvertsAddition(t *testing.T) {
	for _, x := range [][3]int{{0, 0, 0}, {1, 2, 3}, {32767, 1, 32768}, {32768, 32768, 0}, {65535, 1, 0}, {65535, 65535, 65534}} {
		alu(t, impl.AluAdd, x[0], x[1], x[2])
		alu(t, impl.AluSub, x[2], x[1], x[0])
	}
	alu(t, impl.AluSub, 0, 1, 65535)
	alu(t, impl.AluSub, 32768, 1, 32767)
	alu(t, impl.AluSub, 0, 32768, 32768)
	words := sampleWords()
	for _, a := range words {
		alu(t, impl.AluAdd, a, 0, a)
		alu(t, impl.AluAdd, 0, a, a)
		alu(t, impl.AluSub, a, 0, a)
		alu(t, impl.AluSub, a, a, 0)
		for _, b := range words {
			sum := reduced(a + b)
			alu(t, impl.AluAdd, a, b, sum)
			alu(t, impl.AluAdd, b, a, sum)
			alu(t, impl.AluSub, sum, b, a)
			alu(t, impl.AluSub, sum, a, b)
			alu(t, impl.AluSub, a, b, reduced(a-b))
		}
	}
}

func TestP12Associativity(t *testing.T) {
	words := sampleWords()
	for _, f := range []int{impl.AluAdd, impl.AluAnd, impl.AluOr, impl.AluXor} {
		for _, a := range words {
			for _, b := range words {
				left := impl.AluDo(f, a, b)
				if !impl.WrdOk(left) {
					t.Fatalf("AluDo(%d, %d, %d) = %d", f, a, b, left)
				}
				for _, c := range words {
					alu(t, f, a, impl.AluDo(f, b, c), impl.AluDo(f, left, c))
				}
			}
		}
	}
}

func TestP13BitwiseIdentities(t *testing.T) {
	for _, x := range [][5]int{{12, 10, 8, 14, 6}, {32768, 32767, 0, 65535, 65535}, {65535, 32768, 32768, 65535, 32767}, {0, 65535, 0, 65535, 65535}} {
		alu(t, impl.AluAnd, x[0], x[1], x[2])
		alu(t, impl.AluOr, x[0], x[1], x[3])
		alu(t, impl.AluXor, x[0], x[1], x[4])
	}
	words := sampleWords()
	for _, a := range words {
		alu(t, impl.AluAnd, a, a, a)
		alu(t, impl.AluOr, a, a, a)
		alu(t, impl.AluXor, a, a, 0)
		for _, b := range words {
			and, xor := bitwise(a, b, [4]int{0, 0, 0, 1}), bitwise(a, b, [4]int{0, 1, 1, 0})
			alu(t, impl.AluAnd, a, b, and)
			alu(t, impl.AluXor, a, b, xor)
			alu(t, impl.AluOr, a, b, bitwise(a, b, [4]int{0, 1, 1, 1}))
			alu(t, impl.AluOr, a, b, impl.AluDo(impl.AluAdd, impl.AluDo(impl.AluAnd, a, b), impl.AluDo(impl.AluXor, a, b)))
			alu(t, impl.AluXor, impl.AluDo(impl.AluXor, a, b), b, a)
		}
	}
}

func TestP14LessComparesWithSign(t *testing.T) {
	for _, x := range [][3]int{
		{0, 1, 1}, {1, 0, 0}, {65535, 0, 1}, {0, 65535, 0}, {32768, 32767, 1}, {32767, 32768, 0}, {32768, 0, 1}, {0, 32768, 0},
		{32768, 65535, 1}, {65535, 32768, 0}, {0, 32767, 1}, {32767, 0, 0},
	} {
		alu(t, impl.AluLt, x[0], x[1], x[2])
	}
	words := sampleWords()
	for _, a := range words {
		alu(t, impl.AluLt, a, a, 0)
		for _, b := range words {
			want := 0
			if impl.WrdInt(a) < impl.WrdInt(b) {
				want = 1
			}
			alu(t, impl.AluLt, a, b, want)
			if a != b {
				alu(t, impl.AluLt, b, a, 1-want)
			}
		}
	}
}

func TestP15ShiftAmounts(t *testing.T) {
	for _, x := range [][4]int{
		{impl.AluShl, 3, 0, 3}, {impl.AluShl, 3, 1, 6}, {impl.AluShl, 1, 15, 32768}, {impl.AluShl, 3, 15, 32768}, {impl.AluShl, 3, 16, 3}, {impl.AluShl, 3, 17, 6},
		{impl.AluShl, 1, 31, 32768}, {impl.AluShl, 1, 32, 1}, {impl.AluShl, 1, 32768, 1}, {impl.AluShl, 1, 65535, 32768}, {impl.AluShl, 65535, 1, 65534},
		{impl.AluShr, 32768, 0, 32768}, {impl.AluShr, 32768, 1, 16384}, {impl.AluShr, 32768, 15, 1}, {impl.AluShr, 65535, 15, 1}, {impl.AluShr, 32768, 16, 32768},
		{impl.AluShr, 32768, 17, 16384}, {impl.AluShr, 32768, 31, 1}, {impl.AluShr, 65535, 32768, 65535}, {impl.AluShr, 65535, 65535, 1}, {impl.AluShr, 7, 1, 3},
	} {
		alu(t, x[0], x[1], x[2], x[3])
	}
	for _, w := range sampleWords() {
		for n, power := 0, 1; n < impl.WrdBits; n, power = n+1, 2*power {
			for amount := n; amount < impl.WrdTop; amount += impl.WrdBits {
				alu(t, impl.AluShl, w, amount, reduced(w*power))
				alu(t, impl.AluShr, w, amount, w/power)
			}
			if w*power < impl.WrdTop {
				alu(t, impl.AluShr, impl.AluDo(impl.AluShl, w, n), n, w)
			}
		}
	}
}

func TestP11ToP15InvalidArguments(t *testing.T) {
	for _, f := range append(notOperations, operations...) {
		for _, n := range notWords {
			for _, w := range []int{0, 1, 32767, 32768, 65535} {
				alu(t, f, n, w, -1)
				alu(t, f, w, n, -1)
			}
			alu(t, f, n, n, -1)
		}
	}
	for _, f := range notOperations {
		for _, w := range sampleWords() {
			alu(t, f, w, w, -1)
			alu(t, f, w, 0, -1)
			alu(t, f, 0, w, -1)
		}
	}
}

func TestP16RingLaws(t *testing.T) {
	for _, x := range [][3]int{{300, 300, 24464}, {65535, 65535, 1}, {65535, 2, 65534}, {32768, 2, 0}, {32768, 3, 32768}, {32768, 32768, 0}, {32767, 32767, 1}, {256, 256, 0}, {255, 257, 65535}} {
		mul(t, x[0], x[1], x[2])
	}
	words := sampleWords()
	for _, a := range words {
		mul(t, a, 1, a)
		mul(t, 1, a, a)
		mul(t, a, 0, 0)
		mul(t, 0, a, 0)
		for n := range impl.WrdBits {
			mul(t, a, 1<<n, impl.AluDo(impl.AluShl, a, n))
		}
		for _, b := range words {
			product := int(uint64(a) * uint64(b) % impl.WrdTop)
			mul(t, a, b, product)
			mul(t, b, a, product)
			for _, c := range words {
				mul(t, a, impl.AluDo(impl.AluAdd, b, c), impl.AluDo(impl.AluAdd, product, impl.MulDo(a, c)))
			}
		}
	}
}

func TestP16InvalidArguments(t *testing.T) {
	for _, n := range notWords {
		for _, w := range []int{0, 1, 32767, 32768, 65535} {
			mul(t, n, w, -1)
			mul(t, w, n, -1)
		}
		mul(t, n, n, -1)
	}
}
