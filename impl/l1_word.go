package impl

// WrdBits is how many bits a word has, WrdTop how many words there are.
const (
	WrdBits = 16
	WrdTop  = 65536
)

// What is done with two words.
const (
	AluAdd = 0
	AluSub = 1
	AluAnd = 2
	AluOr  = 3
	AluXor = 4
	AluLt  = 5
	AluShl = 6
	AluShr = 7
)

// word has 16 bits so that +, - and * on it wrap around modulo WrdTop without a reduction.
type word uint16

// signed relies on the conversion to int16, which keeps the bits and lets the highest one count as negative.
func (w word) signed() int {
	return int(int16(w))
}

// extend moves the sign bit of a number of so many bits to the highest place, because the shift back to the right then copies it into all bits above.
func (w word) extend(bits int) word {
	gap := WrdBits - bits
	return word(int16(w<<gap) >> gap)
}

// less is a word and not a bool because it ends up in a register.
func (w word) less(v word) word {
	if w.signed() < v.signed() {
		return 1
	}
	return 0
}

// left reduces the amount first, because Go would shift all bits out for amounts of WrdBits and more.
func (w word) left(v word) word {
	return w << (v % WrdBits)
}

// right fills with zeros, as word is unsigned; it reduces the amount for the same reason as left.
func (w word) right(v word) word {
	return w >> (v % WrdBits)
}

// WrdOk says whether a number is a word.
func WrdOk(n int) bool {
	return n >= 0 && n < WrdTop
}

// WrdInt is a word with its sign; 0, if n is not a word.
func WrdInt(n int) int {
	if !WrdOk(n) {
		return 0
	}
	return word(n).signed()
}

// WrdSign is a number of so many bits, with its sign, as a word; -1, if it does not have so many bits.
func WrdSign(n int, bits int) int {
	if bits < 1 || bits > WrdBits {
		return -1
	}
	if n < 0 || n >= 1<<bits {
		return -1
	}
	return int(word(n).extend(bits))
}

// AluDo is what is done with two words; -1, if it is not known.
func AluDo(f int, a int, b int) int {
	if !WrdOk(a) || !WrdOk(b) {
		return -1
	}
	x, y := word(a), word(b)
	switch f {
	case AluAdd:
		return int(x + y)
	case AluSub:
		return int(x - y)
	case AluAnd:
		return int(x & y)
	case AluOr:
		return int(x | y)
	case AluXor:
		return int(x ^ y)
	case AluLt:
		return int(x.less(y))
	case AluShl:
		return int(x.left(y))
	case AluShr:
		return int(x.right(y))
	}
	return -1
}

// MulDo is the product of two words, as a word; -1, if one of them is not a word.
func MulDo(a int, b int) int {
	if !WrdOk(a) || !WrdOk(b) {
		return -1
	}
	return int(word(a) * word(b))
}
