package tests

import (
	"slices"
	"strconv"
	"strings"
	"testing"

	"loop.example/harbinger/impl"
)

// textForms describes the texts of the kinds independently of the program: a capital letter stands for the field of that name, O for the mnemonic of an operation.
var textForms = []string{
	impl.CodAlu:  "O rD rA rB",
	impl.CodAddi: "addi rD rA N",
	impl.CodLui:  "lui rD N",
	impl.CodLoad: "load rD rA N",
	impl.CodSave: "save rA rB N",
	impl.CodEq:   "eq rA rB N",
	impl.CodLt:   "lt rA rB N",
	impl.CodJump: "jump rD N",
	impl.CodCall: "call rD rA N",
	impl.CodMul:  "mul rD rA rB",
	impl.CodSwap: "swap rD rA rB",
	impl.CodWait: "wait",
	impl.CodSys:  "sys N",
	impl.CodBack: "back",
	impl.CodGet:  "get rD F",
	impl.CodSet:  "set rA F",
}

var operationNames = []string{"add", "sub", "and", "or", "xor", "less", "shl", "shr"}

// textOf writes a valid instruction by the form of its kind.
func textOf(c impl.CodInst) string {
	operation := ""
	if c.Kind == impl.CodAlu {
		operation = operationNames[c.F]
	}
	return strings.NewReplacer("O", operation, "D", strconv.Itoa(c.D), "A", strconv.Itoa(c.A), "B", strconv.Itoa(c.B), "F", strconv.Itoa(c.F), "N", strconv.Itoa(c.N)).Replace(textForms[c.Kind])
}

// everyText has all texts of instructions.
func everyText() map[string]impl.CodInst {
	out := map[string]impl.CodInst{}
	for c := range everyInstruction() {
		out[textOf(c)] = c
	}
	return out
}

// knownTexts are instructions and their texts, each written by hand.
var knownTexts = []struct {
	c    impl.CodInst
	text string
}{
	{impl.CodInst{}, "add r0 r0 r0"},
	{impl.CodInst{Kind: impl.CodAlu, D: 1, A: 2, B: 3, F: impl.AluAdd}, "add r1 r2 r3"},
	{impl.CodInst{Kind: impl.CodAlu, D: 1, A: 2, B: 3, F: impl.AluSub}, "sub r1 r2 r3"},
	{impl.CodInst{Kind: impl.CodAlu, D: 1, A: 2, B: 3, F: impl.AluAnd}, "and r1 r2 r3"},
	{impl.CodInst{Kind: impl.CodAlu, D: 1, A: 2, B: 3, F: impl.AluOr}, "or r1 r2 r3"},
	{impl.CodInst{Kind: impl.CodAlu, D: 1, A: 2, B: 3, F: impl.AluXor}, "xor r1 r2 r3"},
	{impl.CodInst{Kind: impl.CodAlu, D: 1, A: 2, B: 3, F: impl.AluLt}, "less r1 r2 r3"},
	{impl.CodInst{Kind: impl.CodAlu, D: 1, A: 2, B: 3, F: impl.AluShl}, "shl r1 r2 r3"},
	{impl.CodInst{Kind: impl.CodAlu, D: 7, A: 7, B: 7, F: impl.AluShr}, "shr r7 r7 r7"},
	{impl.CodInst{Kind: impl.CodAddi, D: 1, A: 2, N: -32}, "addi r1 r2 -32"},
	{impl.CodInst{Kind: impl.CodAddi, D: 1, A: 2, N: -1}, "addi r1 r2 -1"},
	{impl.CodInst{Kind: impl.CodAddi, D: 1, A: 2}, "addi r1 r2 0"},
	{impl.CodInst{Kind: impl.CodAddi, D: 1, A: 2, N: 31}, "addi r1 r2 31"},
	{impl.CodInst{Kind: impl.CodLui, D: 7}, "lui r7 0"},
	{impl.CodInst{Kind: impl.CodLui, D: 7, N: 511}, "lui r7 511"},
	{impl.CodInst{Kind: impl.CodLoad, D: 3, A: 4, N: -5}, "load r3 r4 -5"},
	{impl.CodInst{Kind: impl.CodSave, A: 3, B: 4, N: 5}, "save r3 r4 5"},
	{impl.CodInst{Kind: impl.CodEq, A: 3, B: 4, N: -32}, "eq r3 r4 -32"},
	{impl.CodInst{Kind: impl.CodLt, A: 3, B: 4, N: 31}, "lt r3 r4 31"},
	{impl.CodInst{Kind: impl.CodJump, D: 6, N: -256}, "jump r6 -256"},
	{impl.CodInst{Kind: impl.CodJump, D: 6, N: 255}, "jump r6 255"},
	{impl.CodInst{Kind: impl.CodCall, D: 6, A: 5, N: 4}, "call r6 r5 4"},
	{impl.CodInst{Kind: impl.CodMul, D: 1, A: 2, B: 3}, "mul r1 r2 r3"},
	{impl.CodInst{Kind: impl.CodSwap, D: 1, A: 2, B: 3}, "swap r1 r2 r3"},
	{impl.CodInst{Kind: impl.CodWait}, "wait"},
	{impl.CodInst{Kind: impl.CodSys}, "sys 0"},
	{impl.CodInst{Kind: impl.CodSys, N: 511}, "sys 511"},
	{impl.CodInst{Kind: impl.CodBack}, "back"},
	{impl.CodInst{Kind: impl.CodGet, D: 5, F: impl.CtlMany - 1}, "get r5 4"},
	{impl.CodInst{Kind: impl.CodSet, A: 5}, "set r5 0"},
}

// notTexts are texts of no instruction. None of them is a line of a text either, as long as no label is defined.
var notTexts = []string{
	// No or an unknown mnemonic.
	"", " ", "x", "0", "r1", ":", "alu r1 r2 r3", "addr1 r2 r3", "lt0 r1 r2 1", "ADD r1 r2 r3", "Wait", "waits", "wai", "less", "shr r1", "nop", "halt", "div r1 r2 r3", "\x00", "\xff", "wörd", "wait\x00", "word",
	// Too few or too many fields.
	"add", "add r1", "add r1 r2", "add r1 r2 r3 r4", "add r1 r2 r3 0", "addi r1 r2", "addi r1 1", "addi r1 r2 r3 1", "addi r1 r2 1 1", "lui r1", "lui r1 r2 1", "save r1 1", "eq r1 r2", "eq r1 1", "jump 1", "jump r1", "jump r1 r2 1", "mul r1 r2", "swap r1 r2", "wait 0", "wait r0", "back 0", "sys", "sys r1 1", "sys 1 1", "get r1", "get 1", "get r1 r2 1", "set r1", "set r1 r2", "set r1 1 1",
	// Numbers that are written otherwise, or are none.
	"addi r1 r2 032", "addi r1 r2 01", "addi r1 r2 00", "addi r1 r2 -0", "addi r1 r2 +1", "addi r1 r2 -01", "addi r1 r2 --1", "addi r1 r2 -", "addi r1 r2 +", "addi r1 r2 0x1", "addi r1 r2 1_0", "addi r1 r2 1.0", "addi r1 r2 1e0", "addi r1 r2 ١", "addi r1 r2 one", "addi r1 r2 r3", "sys 00", "sys -0", "sys +1", "lui r1 01", "jump r1 +1", "jump r1 -0", "eq r1 r2 00", "get r1 00", "get r1 +1", "set r1 -0", "get r1 r1",
	// Numbers that are out of the range of their field.
	"addi r1 r2 -33", "addi r1 r2 32", "load r1 r2 32", "save r1 r2 -33", "eq r1 r2 32", "lt r1 r2 -33", "call r1 r2 32", "jump r1 -257", "jump r1 256", "lui r1 -1", "lui r1 512", "sys -1", "sys 512", "get r1 5", "get r1 7", "get r1 -1", "set r1 5", "set r1 8", "jump r1 65536", "sys 18446744073709551616", "sys 9223372036854775808",
	// Registers that are none.
	"add r8 r1 r2", "add r1 r8 r2", "add r1 r2 r8", "add r-1 r1 r2", "add r-0 r1 r2", "add r01 r1 r2", "add r00 r1 r2", "add r+1 r1 r2", "add r r1 r2", "add R1 r1 r2", "add 1 r1 r2", "add x1 r1 r2", "add rr1 r1 r2", "add r10 r1 r2", "lui r8 1", "jump r8 1", "get r8 1", "set r8 1", "add r1, r2, r3", "add r1r2r3", "add r1 r2 r99999999999999999",
	// A space too many, or another separator.
	" wait", "wait ", "  wait", "wait  ", " add r1 r2 r3", "add r1 r2 r3 ", "add  r1 r2 r3", "add r1  r2 r3", "add r1 r2  r3", "add\tr1 r2 r3", "add r1 r2 r3\t", "wait\n", "wait\r", "\twait", "add r1\u00a0r2 r3", "addi r1 r2 - 1", "addi r1 r2 1 ", "sys  1", "sys 1\n", "add r 1 r2 r3",
}

// parses fails the test unless the text is the one of the instruction.
func parses(t *testing.T, s string, want impl.CodInst) {
	t.Helper()
	if got, ok := impl.CodParse(s); !ok || got != want {
		t.Fatalf("CodParse(%q) = %+v, %t, want %+v", s, got, ok, want)
	}
}

// noText fails the test unless the text is the one of no instruction.
func noText(t *testing.T, s string) {
	t.Helper()
	if got, ok := impl.CodParse(s); ok || got != (impl.CodInst{}) {
		t.Fatalf("CodParse(%q) = %+v, %t", s, got, ok)
	}
}

// assembles fails the test unless the text assembles to the words.
func assembles(t *testing.T, lines []string, want []int) {
	t.Helper()
	if got, wrong := impl.TxtRead(lines); wrong != 0 || !slices.Equal(got, want) {
		t.Fatalf("TxtRead(%q) = %v, %d, want %v, 0", lines, got, wrong, want)
	}
}

// malformed fails the test unless the line with that number is the first malformed one.
func malformed(t *testing.T, lines []string, want int) {
	t.Helper()
	if got, wrong := impl.TxtRead(lines); wrong != want || len(got) != 0 {
		t.Fatalf("TxtRead(%q) = %v, %d, want nil, %d", lines, got, wrong, want)
	}
}

// disassembles fails the test unless the words have these lines.
func disassembles(t *testing.T, words []int, want []string) {
	t.Helper()
	if got := impl.TxtWrite(words); !slices.Equal(got, want) {
		t.Fatalf("TxtWrite(%v) = %q, want %q", words, got, want)
	}
}

// sameWords fails the test unless both texts assemble to the same words, with as many words as there are lines of the second one.
func sameWords(t *testing.T, lines, plain []string) {
	t.Helper()
	want, wrong := impl.TxtRead(plain)
	if wrong != 0 || len(want) != len(plain) {
		t.Fatalf("TxtRead(%q) = %v, %d", plain, want, wrong)
	}
	assembles(t, lines, want)
}

// waits are so many lines, each of which is an instruction.
func waits(many int) []string {
	return slices.Repeat([]string{"wait"}, many)
}

// joined puts parts of a text behind each other.
func joined(parts ...[]string) []string {
	return slices.Concat(parts...)
}

// letters is a label that is different for each number below 26*26.
func letters(n int) string {
	return string([]byte{'a' + byte(n/26), 'a' + byte(n%26)})
}

func TestTextConstants(t *testing.T) {
	if impl.TxtMost != 64 || impl.TxtWide != 30 {
		t.Fatal("TxtMost, TxtWide:", impl.TxtMost, impl.TxtWide)
	}
}

func TestP20KnownTexts(t *testing.T) {
	for _, x := range knownTexts {
		if got := impl.CodText(x.c); got != x.text {
			t.Fatalf("CodText(%+v) = %q, want %q", x.c, got, x.text)
		}
		parses(t, x.text, x.c)
	}
}

func TestP20EveryInstruction(t *testing.T) {
	for c := range everyInstruction() {
		text := textOf(c)
		if got := impl.CodText(c); got != text {
			t.Fatalf("CodText(%+v) = %q, want %q", c, got, text)
		}
		parses(t, text, c)
	}
}

func TestP20InvalidInstructions(t *testing.T) {
	for _, c := range invalidInstructions() {
		if got := impl.CodText(c); got != "" {
			t.Fatalf("CodText(%+v) = %q, want nothing", c, got)
		}
	}
}

func TestP20NoTexts(t *testing.T) {
	for _, s := range notTexts {
		noText(t, s)
	}
	// These are lines of a text, but not instructions.
	for _, s := range []string{"word 7", "a:", "wait:", "word:", "eq r1 r2 a", "jump r0 loop"} {
		noText(t, s)
	}
}

// TestP20TextsNextToOnes checks every text that differs from the text of an instruction in one byte.
func TestP20TextsNextToOnes(t *testing.T) {
	const other = " \t\n\x00\xff+-_.,:rRxXaz0123456789"
	texts := everyText()
	check := func(s string) {
		if want, ok := texts[s]; ok {
			parses(t, s, want)
		} else {
			noText(t, s)
		}
	}
	for _, x := range knownTexts {
		for i := range len(x.text) + 1 {
			for k := range len(other) {
				check(x.text[:i] + other[k:k+1] + x.text[i:])
				if i < len(x.text) {
					check(x.text[:i] + other[k:k+1] + x.text[i+1:])
				}
			}
			if i < len(x.text) {
				check(x.text[:i] + x.text[i+1:])
			}
		}
	}
}

func TestP20LongTexts(t *testing.T) {
	for _, x := range knownTexts {
		for _, wide := range []int{impl.TxtWide, impl.TxtWide + 1, 1000} {
			noText(t, x.text+strings.Repeat(" ", wide-len(x.text)))
			noText(t, strings.Repeat(" ", wide-len(x.text))+x.text)
		}
	}
	for _, wide := range []int{impl.TxtWide, impl.TxtWide + 1, 100000} {
		noText(t, "sys "+strings.Repeat("0", wide-5)+"1")
		noText(t, "sys "+strings.Repeat("1", wide-4))
		noText(t, strings.Repeat("w", wide))
		noText(t, strings.Repeat(" ", wide))
	}
}

func TestP21DifferentWordsAndTexts(t *testing.T) {
	words, texts := map[int]impl.CodInst{}, map[string]impl.CodInst{}
	for c := range everyInstruction() {
		word, text := impl.CodWord(c), impl.CodText(c)
		if other, ok := words[word]; ok {
			t.Fatalf("%+v and %+v have the word %d", c, other, word)
		}
		if other, ok := texts[text]; ok {
			t.Fatalf("%+v and %+v have the text %q", c, other, text)
		}
		words[word], texts[text] = c, c
	}
}

func TestP21EqualInstructions(t *testing.T) {
	for c := range everyInstruction() {
		again := impl.CodInst{Kind: c.Kind, D: c.D, A: c.A, B: c.B, F: c.F, N: c.N}
		if impl.CodWord(c) != impl.CodWord(again) || impl.CodText(c) != impl.CodText(again) {
			t.Fatalf("%+v has more than one word or text", c)
		}
	}
}

// TestP22EveryWord takes the words in lists of the greatest length, so that each of them is in one.
func TestP22EveryWord(t *testing.T) {
	texts := map[int]string{}
	for c, w := range everyInstruction() {
		texts[w] = textOf(c)
	}
	for from := 0; from < impl.WrdTop; from += impl.TxtMost {
		words, want := []int{}, []string{}
		for w := from; w < from+impl.TxtMost; w++ {
			line, ok := texts[w]
			if !ok {
				line = "word " + strconv.Itoa(w)
			}
			words, want = append(words, w), append(want, line)
		}
		disassembles(t, words, want)
		assembles(t, want, words)
	}
}

func TestP22Lists(t *testing.T) {
	disassembles(t, nil, nil)
	disassembles(t, []int{}, nil)
	disassembles(t, []int{0xffff, 0xb000, 0xb001, 0, 0x123f, 0xb000}, []string{"word 65535", "wait", "word 45057", "add r0 r0 r0", "addi r1 r0 -1", "wait"})
	for _, many := range []int{0, 1, 2, impl.TxtMost - 1, impl.TxtMost} {
		words := []int{}
		for k := range many {
			words = append(words, k*40503%impl.WrdTop)
		}
		lines := impl.TxtWrite(words)
		if len(lines) != many {
			t.Fatalf("TxtWrite(%v) = %q", words, lines)
		}
		assembles(t, lines, words)
	}
}

func TestP22InvalidLists(t *testing.T) {
	for _, many := range []int{impl.TxtMost + 1, impl.TxtMost + 2, 1000} {
		disassembles(t, make([]int, many), nil)
	}
	for _, n := range notWords {
		disassembles(t, []int{n}, nil)
		disassembles(t, []int{n, 1, 2}, nil)
		disassembles(t, []int{1, 2, n}, nil)
		disassembles(t, append(make([]int, impl.TxtMost-1), n), nil)
		disassembles(t, append(make([]int, impl.TxtMost), n), nil)
	}
}

func TestP22ListsAreNewMemory(t *testing.T) {
	words := []int{0xb000, 0xffff, 0}
	disassembles(t, words, []string{"wait", "word 65535", "add r0 r0 r0"})
	lines := impl.TxtWrite(words)
	lines[0], lines[1] = "x", "y"
	if !slices.Equal(words, []int{0xb000, 0xffff, 0}) {
		t.Fatal("TxtWrite has changed its argument:", words)
	}
	disassembles(t, words, []string{"wait", "word 65535", "add r0 r0 r0"})

	text := []string{"a:", "wait", "jump r0 a"}
	assembles(t, text, []int{0xb000, 0x71fe})
	first, _ := impl.TxtRead(text)
	first[0] = 7
	_ = append(first[:1], 8)
	if !slices.Equal(text, []string{"a:", "wait", "jump r0 a"}) {
		t.Fatal("TxtRead has changed its argument:", text)
	}
	assembles(t, text, []int{0xb000, 0x71fe})
}

func TestP23WordsOfLines(t *testing.T) {
	assembles(t, nil, nil)
	assembles(t, []string{}, nil)
	assembles(t, []string{"a:"}, nil)
	assembles(t, []string{"a:", "b:", "abcdef:"}, nil)
	assembles(t, []string{"word 0", "word 1", "word 65535", "word 45056"}, []int{0, 1, 65535, 0xb000})
	assembles(t, []string{"wait", "a:", "back", "b:", "word 3", "c:"}, []int{0xb000, 0xd000, 3})
	for _, x := range knownTexts {
		assembles(t, []string{x.text}, []int{impl.CodWord(x.c)})
		assembles(t, []string{"a:", x.text, "b:", x.text}, []int{impl.CodWord(x.c), impl.CodWord(x.c)})
	}
}

func TestP23MostLines(t *testing.T) {
	assembles(t, waits(impl.TxtMost), slices.Repeat([]int{0xb000}, impl.TxtMost))
	assembles(t, append(waits(impl.TxtMost-1), "a:"), slices.Repeat([]int{0xb000}, impl.TxtMost-1))
	labels := []string{}
	for n := range impl.TxtMost {
		labels = append(labels, letters(n)+":")
	}
	assembles(t, labels, nil)
	// The number of lines comes first, whatever the lines are; label definitions count.
	malformed(t, append(labels, "wait"), impl.TxtMost+1)
	malformed(t, append(waits(impl.TxtMost), "a:"), impl.TxtMost+1)
	malformed(t, append([]string{"x"}, waits(impl.TxtMost)...), impl.TxtMost+1)
	for _, many := range []int{impl.TxtMost + 1, impl.TxtMost + 2, 1000} {
		malformed(t, waits(many), impl.TxtMost+1)
		malformed(t, make([]string, many), impl.TxtMost+1)
	}
	malformed(t, append(waits(impl.TxtMost-1), "x"), impl.TxtMost)
}

// notLines are lines that are malformed in a text that defines no label but a.
var notLines = append([]string{
	// Words that are none.
	"word", "word ", "word -1", "word 65536", "word 01", "word 00", "word -0", "word +1", "word 1 2", "word  1", " word 1", "word 1 ", "word r1", "word a", "word 0x1", "word 18446744073709551616", "Word 1", "words 1", "word1", "word\t1", "word: 1",
	// Label definitions that are none.
	":", "::", "b::", ":b", "b :", " b:", "b: ", "b:\n", "abcdefg:", "abcdefgh:", "A:", "aB:", "abcdeF:", "b1:", "1:", "r1:", "b_:", "b-:", "b c:", "é:", "\xff:", "`:", "{:", "b", "b: wait", "wait :",
	// Labels that are not defined, or are none.
	"eq r1 r2 b", "lt r1 r2 b", "jump r1 b", "jump r1 aa", "jump r1 A", "jump r1 a:", "jump r1 a1", "jump r1 a ", "jump r1  a", "jump r1 -a", "jump r1 +a", "jump r1 a a", "jump r1 a 0", "jump r1 0 a", "eq r1 a", "jump a", "eq r1 r2 abcdefg", "eq r1 r2 ",
	// Labels in place of something else than the number of a CodEq, CodLt or CodJump.
	"a", "a r1 r2 r3", "addi r1 r2 a", "lui r1 a", "load r1 r2 a", "save r1 r2 a", "call r1 r2 a", "sys a", "get r1 a", "set r1 a", "add r1 r2 a", "mul r1 r2 a", "swap r1 r2 a", "wait a", "back a", "eq a r1 0", "eq r1 a 0", "lt a r1 0", "lt r1 a 0", "jump a 0", "jump ra 0",
}, notTexts...)

func TestP23MalformedLines(t *testing.T) {
	for _, line := range notLines {
		malformed(t, []string{line, "a:"}, 1)
		malformed(t, []string{"a:", line}, 2)
		malformed(t, []string{"a:", "wait", line, "wait"}, 3)
		malformed(t, []string{"wait", "jump r0 a", "a:", line, line}, 4)
		malformed(t, append(append([]string{"a:"}, waits(impl.TxtMost-2)...), line), impl.TxtMost)
	}
}

func TestP23LongLines(t *testing.T) {
	for _, wide := range []int{impl.TxtWide, impl.TxtWide + 1, 1000} {
		for _, line := range []string{"wait", "word 7", "eq r1 r2 abcdef", "less r1 r2 r3", "abcdef:"} {
			malformed(t, []string{"abcdef:", line + strings.Repeat(" ", wide-len(line))}, 2)
			malformed(t, []string{"abcdef:", strings.Repeat(" ", wide-len(line)) + line}, 2)
		}
		malformed(t, []string{"wait", "word " + strings.Repeat("0", wide-6) + "1"}, 2)
		malformed(t, []string{"wait", strings.Repeat("a", wide-1) + ":"}, 2)
	}
}

func TestP23LabelsDefinedAgain(t *testing.T) {
	malformed(t, []string{"a:", "a:"}, 2)
	malformed(t, []string{"wait", "a:", "a:", "a:"}, 3)
	malformed(t, []string{"a:", "b:", "wait", "b:", "a:"}, 4)
	malformed(t, []string{"a:", "wait", "a:", "x"}, 3)
	malformed(t, []string{"a:", "x", "a:"}, 2)
	malformed(t, []string{"a:", "jump r0 b", "a:"}, 2)
	malformed(t, []string{"jump r0 a", "a:", "wait", "a:"}, 4)
	malformed(t, append(append([]string{"abcdef:"}, waits(impl.TxtMost-2)...), "abcdef:"), impl.TxtMost)
	assembles(t, []string{"a:", "aa:", "aaa:", "aaaa:", "b:", "ab:", "ba:", "wait"}, []int{0xb000})
}

// TestP23FirstDefinitionCounts uses labels that are defined again: whether a use is malformed depends on the first definition alone.
func TestP23FirstDefinitionCounts(t *testing.T) {
	near, away := waits(3), waits(40)
	malformed(t, joined([]string{"eq r0 r0 a"}, near, []string{"a:"}, away, []string{"a:"}), 46)
	malformed(t, joined([]string{"a:"}, away, []string{"eq r0 r0 a", "a:"}), 42)
	malformed(t, joined([]string{"a:", "eq r0 r0 a"}, away, []string{"a:"}), 43)
	malformed(t, joined([]string{"eq r0 r0 a"}, away, []string{"a:", "eq r0 r0 a", "a:"}), 1)
}

// TestP23AddressesOfMalformedLines has texts with two malformed lines: whether the first one is malformed depends on the addresses behind the second one.
func TestP23AddressesOfMalformedLines(t *testing.T) {
	for _, line := range []string{"x", "", "A:", "abcdefg:", "word 65536", strings.Repeat("a", 100)} {
		malformed(t, joined([]string{"eq r0 r0 a"}, waits(30), []string{line, "a:"}), 32)
		malformed(t, joined([]string{"eq r0 r0 a"}, waits(31), []string{line, "a:"}), 1)
	}
	// A label definition has no address, even if it is malformed.
	malformed(t, joined([]string{"b:", "eq r0 r0 a"}, waits(31), []string{"b:", "a:"}), 34)
	malformed(t, joined([]string{"b:", "eq r0 r0 a"}, waits(32), []string{"b:", "a:"}), 2)
	// A label that is defined behind a malformed line is defined.
	malformed(t, []string{"jump r0 a", "x", "a:"}, 2)
}

func TestP24Labels(t *testing.T) {
	sameWords(t,
		[]string{"addi r1 r0 5", "loop:", "addi r1 r1 -1", "eq r1 r0 end", "jump r7 loop", "end:", "word 7"},
		[]string{"addi r1 r0 5", "addi r1 r1 -1", "eq r1 r0 1", "jump r7 -3", "word 7"})
	// Behind, ahead, at the instruction itself and right behind it.
	sameWords(t, []string{"a:", "wait", "lt r1 r2 a"}, []string{"wait", "lt r1 r2 -2"})
	sameWords(t, []string{"lt r1 r2 a", "wait", "a:", "wait"}, []string{"lt r1 r2 1", "wait", "wait"})
	sameWords(t, []string{"wait", "a:", "eq r1 r2 a"}, []string{"wait", "eq r1 r2 -1"})
	sameWords(t, []string{"wait", "eq r1 r2 a", "a:", "wait"}, []string{"wait", "eq r1 r2 0", "wait"})
	// At the very end, and at the very beginning.
	sameWords(t, []string{"jump r0 end", "wait", "end:"}, []string{"jump r0 1", "wait"})
	sameWords(t, []string{"jump r0 end", "end:"}, []string{"jump r0 0"})
	sameWords(t, []string{"a:", "jump r0 a"}, []string{"jump r0 -1"})
	// Several labels at one address, and several uses of one label.
	sameWords(t, []string{"wait", "a:", "b:", "wait", "eq r0 r0 a", "lt r0 r0 b", "jump r0 a"}, []string{"wait", "wait", "eq r0 r0 -2", "lt r0 r0 -3", "jump r0 -4"})
	// Words have addresses, too.
	sameWords(t, []string{"jump r0 a", "word 1", "b:", "word 2", "a:", "jump r0 b"}, []string{"jump r0 2", "word 1", "word 2", "jump r0 -2"})
}

func TestP24Names(t *testing.T) {
	names := append([]string{"a", "z", "m", "az", "abc", "zyx", "abcd", "abcde", "abcdef", "zzzzzz", "r", "rr", "word", "wait", "eq", "lt", "jump", "addi", "n", "x"}, operationNames...)
	for _, name := range names {
		sameWords(t, []string{"jump r1 " + name, "wait", name + ":", "back", "eq r1 r2 " + name, "lt r1 r2 " + name}, []string{"jump r1 1", "wait", "back", "eq r1 r2 -2", "lt r1 r2 -3"})
	}
	// A label is the whole field, not a beginning of it.
	sameWords(t, []string{"a:", "wait", "ab:", "wait", "abc:", "jump r0 a", "jump r0 ab", "jump r0 abc"}, []string{"wait", "wait", "jump r0 -3", "jump r0 -3", "jump r0 -3"})
}

func TestP24DistancesThatFit(t *testing.T) {
	for _, use := range []string{"eq r1 r2 ", "lt r1 r2 "} {
		// Ahead: 31 fits, 32 does not.
		sameWords(t, joined([]string{use + "a"}, waits(31), []string{"a:"}), joined([]string{use + "31"}, waits(31)))
		malformed(t, joined([]string{use + "a"}, waits(32), []string{"a:"}), 1)
		malformed(t, joined([]string{"wait", use + "a"}, waits(32), []string{"a:", "wait"}), 2)
		// Behind: -32 fits, -33 does not.
		sameWords(t, joined([]string{"a:"}, waits(31), []string{use + "a"}), joined(waits(31), []string{use + "-32"}))
		malformed(t, joined([]string{"a:"}, waits(32), []string{use + "a"}), 34)
	}
	// The distances of a text all fit a CodJump.
	sameWords(t, joined([]string{"jump r1 a"}, waits(62), []string{"a:"}), joined([]string{"jump r1 62"}, waits(62)))
	sameWords(t, joined([]string{"a:"}, waits(62), []string{"jump r1 a"}), joined(waits(62), []string{"jump r1 -63"}))
}

// TestP24EveryDistance places a use and a label at all pairs of addresses of a text.
func TestP24EveryDistance(t *testing.T) {
	const many = 40
	for _, use := range []string{"eq r3 r4 ", "lt r5 r6 ", "jump r7 "} {
		for from := range many {
			for to := range many + 1 {
				distance := to - from - 1
				plain := waits(many)
				plain[from] = use + strconv.Itoa(distance)
				lines := waits(many)
				lines[from] = use + "there"
				lines = slices.Insert(lines, to, "there:")
				if use != "jump r7 " && (distance < -32 || distance > 31) {
					at := from + 1
					if to <= from {
						at++
					}
					malformed(t, lines, at)
					continue
				}
				sameWords(t, lines, plain)
			}
		}
	}
}

// TestP24ManyLabels has a label ahead of every line, each of which uses the label of another one.
func TestP24ManyLabels(t *testing.T) {
	const many = impl.TxtMost / 2
	for step := range many {
		lines, plain := []string{}, []string{}
		for at := range many {
			to := (at*step + step) % many
			use := []string{"eq r1 r2 ", "lt r3 r4 ", "jump r5 "}[at%3]
			lines = append(lines, letters(at)+":", use+letters(to))
			plain = append(plain, use+strconv.Itoa(to-at-1))
		}
		sameWords(t, lines, plain)
	}
}
