package tests

import (
	"math"
	"math/rand/v2"
	"slices"
	"testing"

	"loop.example/harbinger/impl"
)

// notPlaces are numbers of no word of memory.
var notPlaces = []int{math.MinInt, -256, -16, -4, -2, -1, 256, 257, 260, 272, 512, 65535, 65536, math.MaxInt}

// cachePlaces are the first and the last addresses of the memory, of lines, and of the blocks that share a line.
var cachePlaces = []int{0, 1, 3, 4, 7, 12, 15, 16, 21, 127, 128, 239, 240, 252, 254, 255}

// cacheWords are the least and the greatest word, and one between them.
var cacheWords = []int{0, 777, 65535}

// sameCaches reports whether two caches are equal, where a nil slice and an empty one are the same.
func sameCaches(a, b impl.ChcState) bool {
	return slices.Equal(a.Mem, b.Mem) && slices.EqualFunc(a.Lines, b.Lines, sameLines)
}

func sameLines(a, b impl.ChcLine) bool {
	return a.Used == b.Used && a.At == b.At && a.Dirty == b.Dirty && slices.Equal(a.Words, b.Words)
}

// copiedCache shares no memory with the cache.
func copiedCache(c impl.ChcState) impl.ChcState {
	out := impl.ChcState{Mem: slices.Clone(c.Mem), Lines: slices.Clone(c.Lines)}
	for k := range out.Lines {
		out.Lines[k].Words = slices.Clone(out.Lines[k].Words)
	}
	return out
}

// changedCache is a copy of the cache with the change.
func changedCache(c impl.ChcState, change func(*impl.ChcState)) impl.ChcState {
	out := copiedCache(c)
	change(&out)
	return out
}

// countedMemory has a different word at every address: the greatest one at the first, and 0 at the last.
func countedMemory() []int {
	out := []int{}
	for at := range 256 {
		out = append(out, 65535-257*at)
	}
	return out
}

// cleanAt is a line with the words of countedMemory.
func cleanAt(at int) impl.ChcLine {
	return impl.ChcLine{Used: true, At: at, Words: countedMemory()[at : at+4]}
}

// dirtyAt is a line with other words than countedMemory has there.
func dirtyAt(at int) impl.ChcLine {
	return impl.ChcLine{Used: true, At: at, Dirty: true, Words: []int{60000 + at, 0, 65535, 60003 + at}}
}

// touchedAt is a dirty line with the words of countedMemory.
func touchedAt(at int) impl.ChcLine {
	l := cleanAt(at)
	l.Dirty = true
	return l
}

// caching is a cache with these lines in front of countedMemory.
func caching(lines ...impl.ChcLine) impl.ChcState {
	c := impl.ChcState{Mem: countedMemory(), Lines: make([]impl.ChcLine, 4)}
	for _, l := range lines {
		c.Lines[l.At/4%4] = l
	}
	return c
}

// fullCaches have all lines used: all clean, all dirty, or some of both.
func fullCaches() []impl.ChcState {
	return []impl.ChcState{
		caching(cleanAt(0), cleanAt(20), cleanAt(136), cleanAt(252)),
		caching(dirtyAt(16), dirtyAt(4), dirtyAt(248), dirtyAt(60)),
		caching(touchedAt(240), touchedAt(4), touchedAt(8), touchedAt(12)),
		caching(dirtyAt(0), cleanAt(4), touchedAt(24), dirtyAt(252)),
	}
}

// randomCache is a valid cache.
func randomCache(r *rand.Rand) impl.ChcState {
	c := caching()
	for at := range c.Mem {
		c.Mem[at] = someWord(r, at)
	}
	for k := range c.Lines {
		at := 16*r.IntN(16) + 4*k
		l := impl.ChcLine{Used: true, At: at, Dirty: r.IntN(2) == 0, Words: slices.Clone(c.Mem[at : at+4])}
		if l.Dirty {
			l.Words[r.IntN(4)], l.Words[r.IntN(4)] = someWord(r, at), someWord(r, at)
		}
		if r.IntN(4) > 0 {
			c.Lines[k] = l
		}
	}
	return c
}

// manyCaches are valid caches with lines of every kind at every index.
func manyCaches() []impl.ChcState {
	out := append(fullCaches(), caching(), impl.ChcState{Mem: make([]int, 256), Lines: make([]impl.ChcLine, 4)})
	for _, at := range []int{0, 4, 8, 12, 16, 100, 240, 244, 248, 252} {
		out = append(out, caching(cleanAt(at)), caching(dirtyAt(at)), caching(touchedAt(at)))
	}
	r := newRandom()
	for range 60 {
		out = append(out, randomCache(r))
	}
	return out
}

// visible is the word at an address that the lines and the memory show.
func visible(c impl.ChcState, at int) int {
	for _, l := range c.Lines {
		if l.Used && l.At <= at && at < l.At+4 {
			return l.Words[at-l.At]
		}
	}
	return c.Mem[at]
}

// visibleWords are those at all addresses.
func visibleWords(c impl.ChcState) []int {
	out := []int{}
	for at := range 256 {
		out = append(out, visible(c, at))
	}
	return out
}

// evicted is the cache without the line at that index.
func evicted(c impl.ChcState, index int) impl.ChcState {
	return changedCache(c, func(x *impl.ChcState) {
		if l := x.Lines[index]; l.Dirty {
			copy(x.Mem[l.At:l.At+4], l.Words)
		}
		x.Lines[index] = impl.ChcLine{}
	})
}

// loaded is the cache whose line holds the block of an address.
func loaded(c impl.ChcState, at int) impl.ChcState {
	index, start := at/4%4, at/4*4
	if l := c.Lines[index]; l.Used && l.At == start {
		return copiedCache(c)
	}
	out := evicted(c, index)
	out.Lines[index] = impl.ChcLine{Used: true, At: start, Words: slices.Clone(out.Mem[start : start+4])}
	return out
}

// written is the cache after a write.
func written(c impl.ChcState, at int, n int) impl.ChcState {
	return changedCache(loaded(c, at), func(x *impl.ChcState) {
		l := &x.Lines[at/4%4]
		l.Words[at%4], l.Dirty = n, true
	})
}

// laid is the cache after an external write.
func laid(c impl.ChcState, at int, n int) impl.ChcState {
	if l := c.Lines[at/4%4]; l.Used && l.At == at/4*4 {
		c = evicted(c, at/4%4)
	}
	return changedCache(c, func(x *impl.ChcState) { x.Mem[at] = n })
}

// cacheValid checks a cache, and that it is not written to.
func cacheValid(t *testing.T, c impl.ChcState, want bool) {
	t.Helper()
	before := copiedCache(c)
	if got := impl.ChcOk(c); got != want {
		t.Fatalf("ChcOk(%v) = %v, want %v", c, got, want)
	}
	if !sameCaches(c, before) {
		t.Fatalf("ChcOk(%v) changes its argument", before)
	}
}

// becomes checks a cache that a call returns, that it is valid unless it is the zero value, and that the argument is not written to.
func becomes(t *testing.T, c, want impl.ChcState, call func(impl.ChcState) impl.ChcState) impl.ChcState {
	t.Helper()
	before := copiedCache(c)
	got := call(c)
	if !sameCaches(got, want) {
		t.Fatalf("%v: the result is %v, want %v", before, got, want)
	}
	if !sameCaches(c, before) {
		t.Fatalf("%v: the argument is written to", before)
	}
	cacheValid(t, got, len(got.Mem) > 0)
	return got
}

// readsInto checks both results of a read.
func readsInto(t *testing.T, c impl.ChcState, at int, want impl.ChcState, n int) impl.ChcState {
	t.Helper()
	return becomes(t, c, want, func(c impl.ChcState) impl.ChcState {
		got, gotN := impl.ChcRead(c, at)
		if gotN != n {
			t.Fatalf("ChcRead(%v, %d) = .., %d, want %d", c, at, gotN, n)
		}
		return got
	})
}

// loads checks a read with valid arguments.
func loads(t *testing.T, c impl.ChcState, at int) impl.ChcState {
	t.Helper()
	return readsInto(t, c, at, loaded(c, at), visible(c, at))
}

// writesInto checks the result of a write.
func writesInto(t *testing.T, c impl.ChcState, at int, n int, want impl.ChcState) impl.ChcState {
	t.Helper()
	return becomes(t, c, want, func(c impl.ChcState) impl.ChcState { return impl.ChcWrite(c, at, n) })
}

// writes checks a write with valid arguments.
func writes(t *testing.T, c impl.ChcState, at int, n int) impl.ChcState {
	t.Helper()
	return writesInto(t, c, at, n, written(c, at, n))
}

// laysInto checks the result of an external write.
func laysInto(t *testing.T, c impl.ChcState, at int, n int, want impl.ChcState) impl.ChcState {
	t.Helper()
	return becomes(t, c, want, func(c impl.ChcState) impl.ChcState { return impl.ChcLay(c, at, n) })
}

// lays checks an external write with valid arguments.
func lays(t *testing.T, c impl.ChcState, at int, n int) impl.ChcState {
	t.Helper()
	return laysInto(t, c, at, n, laid(c, at, n))
}

// shows checks all visible words.
func shows(t *testing.T, c impl.ChcState, want []int) {
	t.Helper()
	before := copiedCache(c)
	if got := impl.ChcAll(c); !slices.Equal(got, want) {
		t.Fatalf("ChcAll(%v) = %v, want %v", c, got, want)
	}
	if !sameCaches(c, before) {
		t.Fatalf("ChcAll(%v) changes its argument", before)
	}
}

// looks checks one visible word.
func looks(t *testing.T, c impl.ChcState, at int, want int) {
	t.Helper()
	before := copiedCache(c)
	if got := impl.ChcLook(c, at); got != want {
		t.Fatalf("ChcLook(%v, %d) = %d, want %d", c, at, got, want)
	}
	if !sameCaches(c, before) {
		t.Fatalf("ChcLook(%v, %d) changes its argument", before, at)
	}
}

// replaced has another word at one address.
func replaced(words []int, at int, n int) []int {
	out := slices.Clone(words)
	out[at] = n
	return out
}

// wrongMemories are caches whose memory is not one.
func wrongMemories(c impl.ChcState) []impl.ChcState {
	out := []impl.ChcState{changedCache(c, func(x *impl.ChcState) { x.Mem = nil })}
	for _, many := range []int{0, 1, 128, 252, 255} {
		out = append(out, changedCache(c, func(x *impl.ChcState) { x.Mem = x.Mem[:many] }))
	}
	for _, many := range []int{1, 4, 256} {
		out = append(out, changedCache(c, func(x *impl.ChcState) { x.Mem = append(x.Mem, make([]int, many)...) }))
	}
	for at := range 256 {
		for _, n := range notWords {
			out = append(out, changedCache(c, func(x *impl.ChcState) {
				x.Mem[at] = n
				// A clean line must not be what makes the cache invalid.
				if l := x.Lines[at/4%4]; l.Used && !l.Dirty && l.At == at/4*4 {
					l.Words[at%4] = n
				}
			}))
		}
	}
	return out
}

// wrongLineCounts are caches with too few or too many lines.
func wrongLineCounts(c impl.ChcState) []impl.ChcState {
	out := []impl.ChcState{changedCache(c, func(x *impl.ChcState) { x.Lines = nil })}
	for many := range 4 {
		out = append(out, changedCache(c, func(x *impl.ChcState) { x.Lines = x.Lines[:many] }))
	}
	for _, more := range []int{1, 4, 60} {
		out = append(out, changedCache(c, func(x *impl.ChcState) { x.Lines = append(x.Lines, make([]impl.ChcLine, more)...) }))
	}
	return append(out, changedCache(c, func(x *impl.ChcState) { x.Lines = append(x.Lines, copiedCache(c).Lines...) }))
}

// wrongUnused are unused lines with a field that is not zero.
func wrongUnused(index int) []impl.ChcLine {
	l := dirtyAt(16 + 4*index)
	out := []impl.ChcLine{{Dirty: true}, {Words: l.Words}, {Words: make([]int, 4)}, {Words: []int{0}}, {At: l.At, Words: cleanAt(l.At).Words}}
	for _, at := range append([]int{1, 4, 16 + 4*index, 252}, notPlaces...) {
		out = append(out, impl.ChcLine{At: at})
	}
	return append(out, impl.ChcLine{At: l.At, Dirty: true, Words: l.Words})
}

// wrongStarts are lines that hold no block that may be at that index, clean and dirty ones.
func wrongStarts(index int) []impl.ChcLine {
	out := []impl.ChcLine{}
	for at := range 253 {
		if at%4 != 0 || at/4%4 != index {
			out = append(out, cleanAt(at), dirtyAt(at))
		}
	}
	outside := append([]int{253, 254, 255, 4*index - 16, 4*index - 256, 4*index + 256, 4*index + 272, 65536 + 4*index, -4 * index, -4*index - 16}, notPlaces...)
	for _, at := range outside {
		if at != 0 {
			out = append(out, impl.ChcLine{Used: true, At: at, Words: make([]int, 4)}, impl.ChcLine{Used: true, At: at, Dirty: true, Words: make([]int, 4)})
		}
	}
	return out
}

// wrongWords are lines with too few or too many words, or with one that is wrong.
func wrongWords(index int) []impl.ChcLine {
	out := []impl.ChcLine{}
	at := 32 + 4*index
	for _, many := range []int{0, 1, 2, 3, 5, 8, 16} {
		words := countedMemory()[at : at+many]
		out = append(out, impl.ChcLine{Used: true, At: at, Words: words}, impl.ChcLine{Used: true, At: at, Dirty: true, Words: words})
	}
	for k := range 4 {
		for _, n := range notWords {
			clean, dirty := cleanAt(at), dirtyAt(at)
			clean.Words[k], dirty.Words[k] = n, n
			out = append(out, clean, dirty)
		}
		for _, n := range []int{0, 1, countedMemory()[at+k] - 1, countedMemory()[at+k] + 1, 65535} {
			clean := cleanAt(at)
			clean.Words[k] = n
			out = append(out, clean)
		}
	}
	l := dirtyAt(at)
	l.Dirty = false
	return append(out, l, impl.ChcLine{Used: true, At: at, Words: make([]int, 4)})
}

// invalidCaches are caches with one thing wrong.
func invalidCaches() []impl.ChcState {
	out := []impl.ChcState{{}, {Mem: countedMemory()}, {Lines: make([]impl.ChcLine, 4)}, {Mem: []int{}, Lines: []impl.ChcLine{}}}
	for _, c := range []impl.ChcState{caching(), fullCaches()[0], fullCaches()[1]} {
		out = slices.Concat(out, wrongMemories(c), wrongLineCounts(c))
		for k := range 4 {
			for _, l := range slices.Concat(wrongUnused(k), wrongStarts(k), wrongWords(k)) {
				out = append(out, changedCache(c, func(x *impl.ChcState) { x.Lines[k] = l }))
			}
		}
	}
	return out
}

// refusesInvalid checks that a write is the zero value if one of its arguments is invalid.
func refusesInvalid(t *testing.T, write func(c impl.ChcState, at int, n int) impl.ChcState) {
	t.Helper()
	refuses := func(c impl.ChcState, at int, n int) {
		t.Helper()
		becomes(t, c, impl.ChcState{}, func(c impl.ChcState) impl.ChcState { return write(c, at, n) })
	}
	for _, bad := range invalidCaches() {
		for _, at := range []int{0, 36, 255} {
			refuses(bad, at, 77)
		}
	}
	for _, c := range manyCaches() {
		for _, at := range notPlaces {
			refuses(c, at, 77)
		}
		for _, n := range notWords {
			for _, at := range cachePlaces {
				refuses(c, at, n)
			}
		}
	}
}

func TestP1ReadsAreInvisible(t *testing.T) {
	for _, c := range manyCaches() {
		before := visibleWords(c)
		for at := range 256 {
			x := loads(t, c, at)
			shows(t, x, before)
			looks(t, x, at, before[at])
			if !x.Lines[at/4%4].Used {
				t.Fatalf("ChcRead(%v, %d): the line is not used", c, at)
			}
		}
	}
}

func TestP1AReadLineIsClean(t *testing.T) {
	x := readsInto(t, caching(), 22, caching(cleanAt(20)), 65535-257*22)
	for at := 20; at < 24; at++ {
		x = readsInto(t, x, at, caching(cleanAt(20)), 65535-257*at)
	}
	x = readsInto(t, x, 255, caching(cleanAt(20), cleanAt(252)), 0)
	x = readsInto(t, x, 0, caching(cleanAt(0), cleanAt(20), cleanAt(252)), 65535)
	readsInto(t, x, 40, caching(cleanAt(0), cleanAt(20), cleanAt(40), cleanAt(252)), 65535-257*40)
}

func TestP1ReadsEvictACleanLine(t *testing.T) {
	x := caching()
	for at := 5; at < 256; at += 16 {
		x = readsInto(t, x, at, caching(cleanAt(at-1)), 65535-257*at)
	}
}

func TestP1ReadsEvictADirtyLine(t *testing.T) {
	c := caching(dirtyAt(4), dirtyAt(60))
	want := caching(cleanAt(20), dirtyAt(60))
	copy(want.Mem[4:8], []int{60004, 0, 65535, 60007})
	x := readsInto(t, c, 21, want, 65535-257*21)
	want.Lines[1] = impl.ChcLine{Used: true, At: 4, Words: []int{60004, 0, 65535, 60007}}
	x = readsInto(t, x, 7, want, 60007)
	readsInto(t, x, 6, want, 65535)
}

func TestP1ADirtyLineStaysDirty(t *testing.T) {
	for _, l := range []impl.ChcLine{dirtyAt(0), dirtyAt(100), touchedAt(252)} {
		for k, n := range l.Words {
			readsInto(t, caching(l), l.At+k, caching(l), n)
		}
	}
}

func TestP1InvalidArguments(t *testing.T) {
	for _, bad := range invalidCaches() {
		for _, at := range []int{0, 36, 255} {
			readsInto(t, bad, at, impl.ChcState{}, -1)
		}
	}
	for _, c := range manyCaches() {
		for _, at := range notPlaces {
			readsInto(t, c, at, impl.ChcState{}, -1)
		}
	}
}

func TestP2WritesAreVisible(t *testing.T) {
	for _, c := range manyCaches() {
		before := visibleWords(c)
		for at := range 256 {
			for _, n := range append([]int{before[at]}, cacheWords...) {
				x := writes(t, c, at, n)
				shows(t, x, replaced(before, at, n))
				looks(t, x, at, n)
			}
		}
	}
}

func TestP2EveryWord(t *testing.T) {
	c := caching()
	for n := range impl.WrdTop {
		c = impl.ChcWrite(c, 99, n)
		if impl.ChcLook(c, 99) != n {
			t.Fatalf("%d is not written: %v", n, c)
		}
	}
}

func TestP2AFurtherWriteLeavesTheMemory(t *testing.T) {
	for _, c := range manyCaches() {
		for _, at := range cachePlaces {
			x := writes(t, c, at, 11)
			for k := at / 4 * 4; k < at/4*4+4; k++ {
				if y := writes(t, x, k, 22); !slices.Equal(x.Mem, y.Mem) || impl.ChcLook(y, k) != 22 {
					t.Fatalf("writes to %d and %d turn the memory of %v from %v into %v", at, k, c, x.Mem, y.Mem)
				}
			}
		}
	}
}

func TestP2TheMemoryWaitsForTheEviction(t *testing.T) {
	l := cleanAt(4)
	l.Dirty, l.Words[2] = true, 60
	x := writesInto(t, caching(), 6, 60, caching(l))
	l.Words = []int{40, countedMemory()[5], 60, countedMemory()[7]}
	x = writesInto(t, x, 4, 40, caching(l))
	want := caching(touchedAt(244))
	want.Mem[4], want.Mem[6] = 40, 60
	want.Lines[1].Words[3] = 65535
	writesInto(t, x, 247, 65535, want)
}

func TestP2WritesEvictACleanLine(t *testing.T) {
	l := cleanAt(20)
	l.Dirty, l.Words[0] = true, 0
	writesInto(t, caching(cleanAt(4), dirtyAt(8)), 20, 0, caching(l, dirtyAt(8)))
}

func TestP2TheSameWordMakesALineDirty(t *testing.T) {
	for _, at := range cachePlaces {
		start := at / 4 * 4
		for _, c := range []impl.ChcState{caching(), caching(cleanAt(start)), caching(touchedAt(start))} {
			writesInto(t, c, at, countedMemory()[at], caching(touchedAt(start)))
		}
	}
}

func TestP2InvalidArguments(t *testing.T) {
	refusesInvalid(t, impl.ChcWrite)
}

func TestP47ValidCaches(t *testing.T) {
	for _, c := range manyCaches() {
		cacheValid(t, c, true)
	}
}

func TestP47WithoutUsedLines(t *testing.T) {
	r := newRandom()
	for range 100 {
		c := randomCache(r)
		c.Lines = make([]impl.ChcLine, 4)
		cacheValid(t, c, true)
		for k := range c.Lines {
			c.Lines[k].Words = []int{}
		}
		cacheValid(t, c, true)
	}
}

func TestP47OneWordOfALineChanges(t *testing.T) {
	for _, c := range manyCaches() {
		for k, l := range c.Lines {
			for i, old := range l.Words {
				for _, n := range []int{0, old - 1, old + 1, 65535} {
					if n != old && impl.WrdOk(n) {
						cacheValid(t, changedCache(c, func(x *impl.ChcState) { x.Lines[k].Words[i] = n }), l.Dirty)
					}
				}
			}
		}
	}
}

func TestP47OneWordOfTheMemoryChanges(t *testing.T) {
	for _, c := range manyCaches() {
		for at, old := range c.Mem {
			l := c.Lines[at/4%4]
			clean := l.Used && !l.Dirty && l.At == at/4*4
			cacheValid(t, changedCache(c, func(x *impl.ChcState) { x.Mem[at] = 65535 - old }), !clean)
		}
	}
}

func TestP47OnlyAsTheMemoryIsClean(t *testing.T) {
	for at := 0; at < 256; at += 4 {
		cacheValid(t, caching(touchedAt(at)), true)
		cacheValid(t, caching(cleanAt(at)), true)
		cacheValid(t, caching(dirtyAt(at)), true)
		l := dirtyAt(at)
		l.Dirty = false
		cacheValid(t, caching(l), false)
	}
}

func TestP47InvalidCaches(t *testing.T) {
	for _, bad := range invalidCaches() {
		cacheValid(t, bad, false)
	}
}

func TestP48NewShowsTheMemory(t *testing.T) {
	r := newRandom()
	for _, mem := range [][]int{make([]int, 256), countedMemory(), slices.Repeat([]int{65535}, 256), randomCache(r).Mem, randomCache(r).Mem} {
		before := slices.Clone(mem)
		c := impl.ChcNew(mem)
		if !sameCaches(c, impl.ChcState{Mem: before, Lines: make([]impl.ChcLine, 4)}) || !slices.Equal(mem, before) {
			t.Fatalf("ChcNew(%v) = %v", before, c)
		}
		cacheValid(t, c, true)
		shows(t, c, before)
	}
}

func TestP48InvalidMemories(t *testing.T) {
	for _, bad := range wrongMemories(caching()) {
		before := slices.Clone(bad.Mem)
		if c := impl.ChcNew(bad.Mem); !sameCaches(c, impl.ChcState{}) || !slices.Equal(bad.Mem, before) {
			t.Fatalf("ChcNew(%v) = %v", before, c)
		}
	}
}

func TestP49ExternalWritesAreVisible(t *testing.T) {
	for _, c := range manyCaches() {
		before := visibleWords(c)
		for at := range 256 {
			for _, n := range append([]int{before[at], c.Mem[at]}, cacheWords...) {
				x := lays(t, c, at, n)
				shows(t, x, replaced(before, at, n))
				looks(t, x, at, n)
				if x.Mem[at] != n {
					t.Fatalf("ChcLay(%v, %d, %d): the memory has %d", c, at, n, x.Mem[at])
				}
			}
		}
	}
}

func TestP49WhatTheLineHolds(t *testing.T) {
	for _, one := range []struct {
		before, after []impl.ChcLine
		mem           map[int]int
	}{
		{nil, nil, nil},
		{[]impl.ChcLine{cleanAt(4)}, nil, nil},
		{[]impl.ChcLine{dirtyAt(4)}, nil, map[int]int{4: 60004, 6: 65535, 7: 60007}},
		{[]impl.ChcLine{touchedAt(4), dirtyAt(8)}, []impl.ChcLine{dirtyAt(8)}, nil},
		{[]impl.ChcLine{cleanAt(20)}, []impl.ChcLine{cleanAt(20)}, nil},
		{[]impl.ChcLine{dirtyAt(244), dirtyAt(0)}, []impl.ChcLine{dirtyAt(244), dirtyAt(0)}, nil},
	} {
		want := caching(one.after...)
		for at, n := range one.mem {
			want.Mem[at] = n
		}
		want.Mem[5] = 51
		laysInto(t, caching(one.before...), 5, 51, want)
	}
}

func TestP49EveryWord(t *testing.T) {
	c := caching(dirtyAt(96))
	for n := range impl.WrdTop {
		x := impl.ChcLay(c, 99, n)
		if x.Mem[99] != n || impl.ChcLook(x, 99) != n || x.Mem[96] != 60096 {
			t.Fatalf("%d is not laid: %v", n, x)
		}
	}
}

func TestP49InvalidArguments(t *testing.T) {
	refusesInvalid(t, impl.ChcLay)
}

func TestP50AllIsLookEverywhere(t *testing.T) {
	for _, c := range manyCaches() {
		want := visibleWords(c)
		shows(t, c, want)
		for at, n := range want {
			looks(t, c, at, n)
		}
	}
}

func TestP50KnownWords(t *testing.T) {
	want := countedMemory()
	copy(want, []int{60000, 0, 65535, 60003})
	copy(want[252:], []int{60252, 0, 65535, 60255})
	c := caching(dirtyAt(0), cleanAt(4), touchedAt(24), dirtyAt(252))
	shows(t, c, want)
	for at, n := range map[int]int{0: 60000, 1: 0, 2: 65535, 3: 60003, 4: 64507, 16: 61423, 27: 58596, 251: 1028, 255: 60255} {
		looks(t, c, at, n)
	}
}

func TestP50InvalidArguments(t *testing.T) {
	for _, bad := range invalidCaches() {
		shows(t, bad, nil)
		for _, at := range []int{0, 36, 255} {
			looks(t, bad, at, -1)
		}
	}
	for _, c := range manyCaches() {
		for _, at := range notPlaces {
			looks(t, c, at, -1)
		}
	}
}

func TestP51DifferentAddresses(t *testing.T) {
	for _, c := range append(fullCaches(), caching()) {
		before := visibleWords(c)
		for _, at := range cachePlaces {
			for other := range 256 {
				if at != other {
					want := replaced(replaced(before, at, 11), other, 65535)
					shows(t, writes(t, writes(t, c, at, 11), other, 65535), want)
					shows(t, writes(t, writes(t, c, other, 65535), at, 11), want)
				}
			}
		}
	}
}

func TestP51OneAddress(t *testing.T) {
	for _, c := range manyCaches() {
		before := visibleWords(c)
		for _, at := range cachePlaces {
			for _, n := range cacheWords {
				for _, m := range cacheWords {
					shows(t, writes(t, writes(t, c, at, n), at, m), replaced(before, at, m))
				}
			}
		}
	}
}

func TestP51LongRuns(t *testing.T) {
	r := newRandom()
	for range 60 {
		c := randomCache(r)
		want := visibleWords(c)
		// Few blocks make the lines change over often; many make every line take part.
		some := []int{20, 40, 256}[r.IntN(3)]
		for range 100 {
			at, n := r.IntN(some), someWord(r, 100)
			switch r.IntN(4) {
			case 0:
				c = lays(t, c, at, n)
				want[at] = n
			case 1:
				c = loads(t, c, at)
			default:
				c = writes(t, c, at, n)
				want[at] = n
			}
			shows(t, c, want)
		}
	}
}

// roomyCache is the same cache with spare capacity behind every slice.
func roomyCache(c impl.ChcState) impl.ChcState {
	out := impl.ChcState{Mem: withRoom(c.Mem), Lines: withRoom(c.Lines)}
	for k := range out.Lines {
		out.Lines[k].Words = withRoom(out.Lines[k].Words)
	}
	return out
}

// wholeCache is all memory of a cache, spare capacity included, as a cache.
func wholeCache(c impl.ChcState) impl.ChcState {
	out := impl.ChcState{Mem: c.Mem[:cap(c.Mem)], Lines: slices.Clone(c.Lines[:cap(c.Lines)])}
	for k, l := range out.Lines {
		out.Lines[k].Words = l.Words[:cap(l.Words)]
	}
	return out
}

// spoilCache writes to all memory of a cache.
func spoilCache(c impl.ChcState) {
	all := wholeCache(c)
	spoilWords(all.Mem)
	for k, l := range all.Lines {
		spoilWords(l.Words)
		c.Lines[:cap(c.Lines)][k] = impl.ChcLine{Used: true, At: -7, Dirty: true, Words: []int{-7}}
	}
}

// ownWords checks that no two slices of words of one cache share memory, spare capacity included.
func ownWords(t *testing.T, c impl.ChcState) {
	t.Helper()
	listsApart(t, wordLists(c)...)
}

// wordLists are the slices of words of a cache.
func wordLists(c impl.ChcState) [][]int {
	out := [][]int{c.Mem}
	for _, l := range c.Lines[:cap(c.Lines)] {
		out = append(out, l.Words)
	}
	return out
}

// cachesApart checks that results share no memory with the argument, and that the slices of one share none with each other.
func cachesApart(t *testing.T, c impl.ChcState, call func(impl.ChcState) impl.ChcState) {
	t.Helper()
	handling[impl.ChcState]{sameCaches, copiedCache, roomyCache, wholeCache, spoilCache}.apart(t, c, call)
	ownWords(t, call(roomyCache(c)))
}

func TestP1ResultsShareNoMemory(t *testing.T) {
	for _, c := range manyCaches() {
		for at := range 256 {
			cachesApart(t, c, func(c impl.ChcState) impl.ChcState {
				x, _ := impl.ChcRead(c, at)
				return x
			})
		}
	}
}

func TestP2ResultsShareNoMemory(t *testing.T) {
	for _, c := range manyCaches() {
		for at := range 256 {
			cachesApart(t, c, func(c impl.ChcState) impl.ChcState { return impl.ChcWrite(c, at, 77) })
		}
	}
}

func TestP48NewSharesNoMemory(t *testing.T) {
	for _, c := range manyCaches() {
		cachesApart(t, c, func(c impl.ChcState) impl.ChcState { return impl.ChcNew(c.Mem) })
	}
}

func TestP49ResultsShareNoMemory(t *testing.T) {
	for _, c := range manyCaches() {
		for at := range 256 {
			cachesApart(t, c, func(c impl.ChcState) impl.ChcState { return impl.ChcLay(c, at, 77) })
		}
	}
}

func TestP50ResultsShareNoMemory(t *testing.T) {
	for _, c := range manyCaches() {
		cachesApart(t, c, func(c impl.ChcState) impl.ChcState { return impl.ChcState{Mem: impl.ChcAll(c)} })
	}
}
