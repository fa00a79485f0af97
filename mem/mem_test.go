package mem_test

import (
	"math"
	"testing"

	"undertow/api"
	"undertow/mem"
)

// The limits, written out.
const (
	most  = 256
	words = 16
)

// noPlaces are numbers that are none of 0 to n-1: next to them, huge ones, and such as are like one of them if some upper bits were dropped.
func noPlaces(n int) []int {
	l := []int{-1, -2, -n, -n - 1, n, n + 1, 2 * n, math.MinInt, math.MinInt + 1, math.MaxInt, math.MaxInt - 1, math.MinInt32, math.MaxInt32, math.MaxUint32}
	return append(l, -16, -256, -1<<16, -1<<32, -1<<62, 1<<16, 1<<16+1, 1<<32, 1<<32+1, 1<<62, 1<<62+1, n+1<<32-1, n-1-1<<32)
}

func made(t *testing.T, blocks int) *mem.Mem {
	t.Helper()
	m, e := mem.New(blocks)
	if m == nil || e != api.OK {
		t.Fatal("New", blocks, m, e)
	}
	return m
}

// filled is a memory, and what is in it: no two of its words are alike, and each differs from 0 in its highest and lowest bits.
func filled(t *testing.T, blocks int) (*mem.Mem, []api.Block) {
	t.Helper()
	m, l := made(t, blocks), make([]api.Block, blocks)
	for b := range blocks {
		for w := range words {
			l[b][w] = 0x80000001 + uint32(b)<<16 + uint32(w)<<4
		}
		if e := m.SetBlock(b, l[b]); e != api.OK {
			t.Fatal("SetBlock", b, e)
		}
	}
	return m, l
}

// holds tells what each call that changes nothing says of m, where it is to have these blocks.
func holds(t *testing.T, m *mem.Mem, want []api.Block) {
	t.Helper()
	if m.Blocks() != len(want) {
		t.Error("Blocks", m.Blocks(), "want", len(want))
	}
	for b := range want {
		if x, e := m.Block(b); x != want[b] || e != api.OK {
			t.Error("Block", b, x, e, "want", want[b])
		}
		for w := range words {
			if x, e := m.Word(b, w); x != want[b][w] || e != api.OK {
				t.Error("Word", b, w, x, e, "want", want[b][w])
			}
		}
	}
	for _, b := range []int{-1, len(want)} {
		if x, e := m.Block(b); x != (api.Block{}) || e != api.ErrRange {
			t.Error("Block", b, x, e)
		}
		if x, e := m.Word(b, 0); x != 0 || e != api.ErrRange {
			t.Error("Word", b, x, e)
		}
	}
}

func all(x uint32) api.Block {
	var b api.Block
	for w := range b {
		b[w] = x
	}
	return b
}

func TestNumbersOfTheDocument(t *testing.T) {
	if api.OK != 0 || api.ErrNil != 1 || api.ErrArg != 2 || api.ErrRange != 5 {
		t.Error("errors", api.OK, api.ErrNil, api.ErrArg, api.ErrRange)
	}
	if api.MaxBlocks != most || api.BlockWords != words || len(api.Block{}) != words {
		t.Error("limits", api.MaxBlocks, api.BlockWords, len(api.Block{}))
	}
}

// P4.1: memories that there are, from the least one to the greatest; all their words are 0.
func TestNew(t *testing.T) {
	for blocks := 1; blocks <= most; blocks++ {
		holds(t, made(t, blocks), make([]api.Block, blocks))
	}
}

// P4.1: memories that there are not.
func TestNewArg(t *testing.T) {
	for _, blocks := range append(noPlaces(most+1), 0, -255, 512, 1<<32+256, 1-1<<32) {
		if m, e := mem.New(blocks); m != nil || e != api.ErrArg {
			t.Error("New", blocks, m, e)
		}
	}
}

// P4.1: memories have nothing to do with one another.
func TestNewIsAnother(t *testing.T) {
	m, n := made(t, 2), made(t, 2)
	m.SetWord(1, 3, 7)
	holds(t, m, []api.Block{{}, {3: 7}})
	holds(t, n, []api.Block{{}, {}})
	n.SetBlock(0, all(9))
	holds(t, m, []api.Block{{}, {3: 7}})
	holds(t, n, []api.Block{all(9), {}})
	holds(t, made(t, 2), []api.Block{{}, {}})
}

// P4.2, P4.4: each word of a memory alone is set, and told; the others are what they were.
func TestSetWord(t *testing.T) {
	for _, blocks := range []int{1, 2, 5} {
		for b := range blocks {
			for w := range words {
				m, want := filled(t, blocks)
				for _, x := range []uint32{0, math.MaxUint32, 1, 1 << 31, 0x01020304} {
					if e := m.SetWord(b, w, x); e != api.OK {
						t.Error("SetWord", b, w, x, e)
					}
					want[b][w] = x
					holds(t, m, want)
				}
			}
		}
	}
}

// P4.2, P4.4: each word of a memory whose words are all 0, where blocks are alike.
func TestSetWordOfZeros(t *testing.T) {
	const blocks = 4
	for b := range blocks {
		for w := range words {
			m, want := made(t, blocks), make([]api.Block, blocks)
			m.SetWord(b, w, 5)
			want[b][w] = 5
			holds(t, m, want)
			m.SetWord(b, w, 0)
			want[b][w] = 0
			holds(t, m, want)
			m.SetWord(blocks-1-b, w, 6)
			want[blocks-1-b][w] = 6
			holds(t, m, want)
		}
	}
}

// P4.2, P4.4: each block alone is set, and told; the others are what they were.
func TestSetBlock(t *testing.T) {
	for _, blocks := range []int{1, 2, 7, most} {
		m, want := filled(t, blocks)
		for _, b := range []int{0, blocks / 2, blocks - 1} {
			for _, x := range []api.Block{all(3), all(3), {}, all(math.MaxUint32), {15: 1}, {0: 1 << 31}} {
				if e := m.SetBlock(b, x); e != api.OK {
					t.Error("SetBlock", b, x, e)
				}
				want[b] = x
				holds(t, m, want)
			}
		}
	}
}

// P4.2: the greatest memory is all of it there, its first block and its last one among it.
func TestGreatest(t *testing.T) {
	m, want := filled(t, most)
	holds(t, m, want)
	for _, p := range [][2]int{{0, 0}, {0, 15}, {255, 0}, {255, 15}} {
		m.SetWord(p[0], p[1], 77)
		want[p[0]][p[1]] = 77
	}
	holds(t, m, want)
}

// P4.2: blocks that there are not, whatever the word is; nothing has changed.
func TestNoBlock(t *testing.T) {
	for _, blocks := range []int{1, 3, 16, 17, most} {
		m, want := filled(t, blocks)
		for _, b := range noPlaces(blocks) {
			if x, e := m.Block(b); x != (api.Block{}) || e != api.ErrRange {
				t.Error("Block", b, x, e)
			}
			if e := m.SetBlock(b, all(9)); e != api.ErrRange {
				t.Error("SetBlock", b, e)
			}
			for _, w := range []int{0, 1, 15, 16, -1, math.MaxInt, math.MinInt} {
				if x, e := m.Word(b, w); x != 0 || e != api.ErrRange {
					t.Error("Word", b, w, x, e)
				}
				if e := m.SetWord(b, w, 9); e != api.ErrRange {
					t.Error("SetWord", b, w, e)
				}
			}
		}
		holds(t, m, want)
	}
}

// P4.2: words that there are not; nothing has changed, neither in the block that was named nor in those beside it.
func TestNoWord(t *testing.T) {
	m, want := filled(t, 20)
	for b := range want {
		for _, w := range append(noPlaces(words), 17, 31, 256, 1<<32+15) {
			if x, e := m.Word(b, w); x != 0 || e != api.ErrRange {
				t.Error("Word", b, w, x, e)
			}
			for _, x := range []uint32{0, 9} {
				if e := m.SetWord(b, w, x); e != api.ErrRange {
					t.Error("SetWord", b, w, x, e)
				}
			}
		}
	}
	holds(t, m, want)
}

// P4.2: a block told is its words told one by one, and one set by words is one set whole.
func TestBothWays(t *testing.T) {
	m, want := filled(t, 9)
	n := made(t, 9)
	for b := range want {
		for w := range words {
			x, _ := m.Word(b, w)
			n.SetWord(b, w, x)
		}
		x, _ := n.Block(b)
		y, _ := m.Block(b)
		if x != y || x != want[b] {
			t.Error(b, x, y)
		}
	}
	holds(t, n, want)
}

// P4.2, R3: who has a block that was told, or handed in, may change it: the memory is what it was.
func TestBlocksAreApart(t *testing.T) {
	m, want := filled(t, 3)
	for b := range want {
		told, _ := m.Block(b)
		told[0], told[15] = 1, 2
		holds(t, m, want)
		handed := all(uint32(b))
		m.SetBlock(b, handed)
		want[b] = all(uint32(b))
		handed[0], handed[15] = 1, 2
		holds(t, m, want)
		m.SetWord(b, 7, 70)
		want[b][7] = 70
		if told[7] == 70 || handed[7] == 70 {
			t.Error("a block that is somebody's was changed", told, handed)
		}
		holds(t, m, want)
	}
}

// P4.2: blocks that were set from one that was told are each their own.
func TestOneBlockTwice(t *testing.T) {
	m := made(t, 3)
	b := all(4)
	m.SetBlock(0, b)
	m.SetBlock(1, b)
	x, _ := m.Block(1)
	m.SetBlock(2, x)
	m.SetWord(1, 5, 6)
	other := all(4)
	other[5] = 6
	holds(t, m, []api.Block{all(4), other, all(4)})
	m.SetWord(0, 0, 0)
	m.SetWord(2, 15, 0)
	first, last := all(4), all(4)
	first[0], last[15] = 0, 0
	holds(t, m, []api.Block{first, other, last})
}

// P4.3: a copy has the same words; what is done to it, or to what it was made of, is done to that one alone.
func TestCopy(t *testing.T) {
	for _, blocks := range []int{1, 2, 5, most} {
		m, mine := filled(t, blocks)
		n := m.Copy()
		if n == m {
			t.Fatal("Copy answers what it was asked of")
		}
		its := append([]api.Block(nil), mine...)
		holds(t, n, its)
		last := blocks - 1
		m.SetWord(0, 3, 1)
		mine[0][3] = 1
		holds(t, m, mine)
		holds(t, n, its)
		n.SetWord(0, 4, 2)
		its[0][4] = 2
		n.SetBlock(last, all(8))
		its[last] = all(8)
		holds(t, m, mine)
		holds(t, n, its)
		m.SetBlock(last, all(9))
		mine[last] = all(9)
		holds(t, m, mine)
		holds(t, n, its)
	}
}

// P4.3: copies of copies, which all go on apart, also where what is set is what is there already.
func TestCopiesOfCopies(t *testing.T) {
	l := []*mem.Mem{made(t, 2)}
	for i := range 5 {
		l = append(l, l[i].Copy())
	}
	for i, m := range l {
		m.SetWord(0, 0, 0)
		m.SetBlock(1, api.Block{})
		m.SetWord(0, i, uint32(i+1))
		m.SetWord(1, 0, uint32(i+1))
		m.SetWord(1, 0, uint32(i+1))
	}
	l = append(l, l[2].Copy())
	for i, m := range l[:6] {
		want := []api.Block{{}, {0: uint32(i + 1)}}
		want[0][i] = uint32(i + 1)
		holds(t, m, want)
	}
	holds(t, l[6], []api.Block{{2: 3}, {0: 3}})
}

// P4.3: by none of the words, by all, by each one alone, and by all but one.
func TestMerge(t *testing.T) {
	var a, b api.Block
	for w := range words {
		a[w], b[w] = uint32(w), math.MaxUint32-uint32(w)
	}
	if x := mem.Merge(a, b, 0); x != a {
		t.Error("none", x)
	}
	if x := mem.Merge(a, b, 0xFFFF); x != b {
		t.Error("all", x)
	}
	for w := range words {
		one, rest := a, b
		one[w], rest[w] = b[w], a[w]
		if x := mem.Merge(a, b, 1<<w); x != one {
			t.Error("one", w, x)
		}
		if x := mem.Merge(a, b, 0xFFFF-1<<w); x != rest {
			t.Error("all but one", w, x)
		}
	}
}

// P4.3: all sets of words.
func TestMergeAll(t *testing.T) {
	var a, b api.Block
	for w := range words {
		a[w], b[w] = uint32(w)+100, uint32(w)+200
	}
	wasA, wasB := a, b
	for set := range 1 << 16 {
		x := mem.Merge(a, b, uint16(set))
		for w, power := 0, 1; w < words; w, power = w+1, power*2 {
			want := a[w]
			if set/power%2 == 1 {
				want = b[w]
			}
			if x[w] != want {
				t.Fatal("Merge", set, w, x)
			}
		}
	}
	if a != wasA || b != wasB {
		t.Error("what was handed in was changed", a, b)
	}
	if x := mem.Merge(a, a, 0x5A5A); x != a {
		t.Error("Merge with itself", x)
	}
}

// P4.4: whatever is set, in whatever order, is told again, and nothing else is otherwise.
func TestRuns(t *testing.T) {
	mixed := uint32(1)
	below := func(n int) int {
		mixed = mixed*1664525 + 1013904223
		return int(mixed>>8) % n
	}
	for blocks := 1; blocks <= 6; blocks++ {
		ms, wants := []*mem.Mem{made(t, blocks)}, [][]api.Block{make([]api.Block, blocks)}
		for range 400 {
			i, b, w := below(len(ms)), below(blocks+2)-1, below(words+2)-1
			there, fits := b >= 0 && b < blocks, w >= 0 && w < words
			switch below(8) {
			case 0:
				x := all(uint32(below(3)))
				if e := ms[i].SetBlock(b, x); (e == api.OK) != there {
					t.Fatal("SetBlock", b, e)
				}
				if there {
					wants[i][b] = x
				}
			case 1:
				if len(ms) < 4 {
					ms = append(ms, ms[i].Copy())
					wants = append(wants, append([]api.Block(nil), wants[i]...))
				}
			default:
				x := uint32(below(3))
				if e := ms[i].SetWord(b, w, x); (e == api.OK) != (there && fits) {
					t.Fatal("SetWord", b, w, e)
				}
				if there && fits {
					wants[i][b][w] = x
				}
			}
			for j := range ms {
				holds(t, ms[j], wants[j])
			}
		}
	}
}

// R4: no memory, at each call, whatever else is asked.
func TestNil(t *testing.T) {
	var m *mem.Mem
	if n := m.Blocks(); n != 0 {
		t.Error("Blocks", n)
	}
	if n := m.Copy(); n != nil {
		t.Error("Copy", n)
	}
	for _, b := range []int{0, 1, -1, 255, 256, math.MaxInt, math.MinInt} {
		if x, e := m.Block(b); x != (api.Block{}) || e != api.ErrNil {
			t.Error("Block", b, x, e)
		}
		if e := m.SetBlock(b, all(1)); e != api.ErrNil {
			t.Error("SetBlock", b, e)
		}
		for _, w := range []int{0, 15, -1, 16, math.MaxInt, math.MinInt} {
			if x, e := m.Word(b, w); x != 0 || e != api.ErrNil {
				t.Error("Word", b, w, x, e)
			}
			if e := m.SetWord(b, w, 1); e != api.ErrNil {
				t.Error("SetWord", b, w, e)
			}
		}
	}
}

// The chapter's table.
func TestExamples(t *testing.T) {
	m := made(t, 3)
	if e := m.SetWord(2, 15, 7); e != api.OK {
		t.Error(e)
	}
	if x, e := m.Word(2, 15); x != 7 || e != api.OK {
		t.Error(x, e)
	}
	if x, e := m.Word(2, 14); x != 0 || e != api.OK {
		t.Error(x, e)
	}
	if e := m.SetWord(3, 0, 1); e != api.ErrRange {
		t.Error(e)
	}
	if x, e := m.Word(0, 16); x != 0 || e != api.ErrRange {
		t.Error(x, e)
	}
	if x := mem.Merge(all(1), all(2), 5); [3]uint32(x[:3]) != [3]uint32{2, 1, 2} {
		t.Error(x)
	}
}
