package cache_test

import (
	"math"
	"slices"
	"testing"

	"undertow/api"
	"undertow/cache"
)

// shapes are sets and ways that a plan may have: 1 set and several, of 1, 2 and 4 ways.
var shapes = [][2]int{{1, 1}, {1, 2}, {1, 4}, {2, 1}, {2, 2}, {4, 4}, {8, 2}, {16, 1}, {16, 4}}

// noBlocks are numbers of no block: next to those that may be, huge, and such as are like a block's if upper bits were dropped.
var noBlocks = []int{
	-1, -2, -4, -16, -255, -256, 256, 257, 260, 271, 511, 512, 1024,
	math.MinInt, math.MinInt + 1, math.MinInt32, math.MaxInt, math.MaxInt - 1, math.MaxInt32, math.MaxUint32,
	1 << 16, 1<<16 + 4, 1 << 32, 1<<32 + 1, 1<<32 + 4, 1<<32 + 255, 1 << 62, 1<<62 + 4, 4 - 1<<32, -1 << 32, -1 << 62,
}

// noWords are likewise of no word.
var noWords = []int{
	-1, -2, -15, -16, 16, 17, 31, 32, 256,
	math.MinInt, math.MinInt + 1, math.MinInt32, math.MaxInt, math.MaxInt - 1, math.MaxInt32, math.MaxUint32,
	1 << 8, 1 << 32, 1<<32 + 1, 1<<32 + 15, 1 << 62, 3 - 1<<32, -1 << 32,
}

var states = []api.State{1, 2, 3}

var noStates = []api.State{0, 4, 5, 6, 7, 8, 64, 127, 128, 129, 130, 131, 254, 255}

func planOf(sets, ways int) api.Config {
	return api.Config{Cores: 1, Sets: sets, Ways: ways, Blocks: 10, Logs: 1, Backs: 1, Nest: 1, Tries: 1}
}

func made(t *testing.T, sets, ways int) *cache.Cache {
	t.Helper()
	k, e := cache.New(planOf(sets, ways))
	if k == nil || e != api.OK {
		t.Fatal("New", sets, ways, k, e)
	}
	return k
}

// line has words of which no two blocks have the same.
func line(block int, s api.State) api.Line {
	l := api.Line{Block: block, State: s}
	for i := range l.Data {
		l.Data[i] = uint32(1000*block + i + 7)
	}
	return l
}

// shared are lines of these blocks that are StShared.
func shared(blocks ...int) []api.Line {
	var l []api.Line
	for _, b := range blocks {
		l = append(l, line(b, api.StShared))
	}
	return l
}

func put(t *testing.T, k *cache.Cache, l ...api.Line) {
	t.Helper()
	for _, x := range l {
		if e := k.Put(x); e != api.OK {
			t.Fatal("Put", x, e)
		}
	}
}

// filled is a cache all of whose ways have lines, of the blocks from 0 on.
func filled(t *testing.T, sets, ways int, s api.State) *cache.Cache {
	t.Helper()
	k := made(t, sets, ways)
	for b := range sets * ways {
		put(t, k, line(b, s))
	}
	return k
}

// lines are all that there are, in their order.
func lines(k *cache.Cache) []api.Line {
	var l []api.Line
	for x := range k.All() {
		l = append(l, x)
	}
	return l
}

// holds tells what is to be seen of k, where it is to have these lines, in the order of All.
func holds(t *testing.T, k *cache.Cache, want ...api.Line) {
	t.Helper()
	if got := lines(k); !slices.Equal(got, want) {
		t.Error("All", blocksOf(got), "not", blocksOf(want), got, "not", want)
	}
	if k.Len() != len(want) {
		t.Error("Len", k.Len(), "not", len(want))
	}
	for b := -1; b <= 257; b++ {
		i := slices.IndexFunc(want, func(l api.Line) bool { return l.Block == b })
		x := api.Line{}
		if i >= 0 {
			x = want[i]
		}
		if l, is := k.Find(b); l != x || is != (i >= 0) {
			t.Error("Find", b, l, is, "not", x)
		}
	}
}

func blocksOf(l []api.Line) []int {
	var blocks []int
	for _, x := range l {
		blocks = append(blocks, x.Block)
	}
	return blocks
}

// goes tells whether the line of a block is the one that would have to go for another one.
func goes(t *testing.T, k *cache.Cache, block, want int) {
	t.Helper()
	l, is := k.Goes(block)
	x, _ := k.Find(want)
	if !is || l != x || l.Block != want {
		t.Error("Goes", block, l, is, "not", want)
	}
}

// none tells that for a block nothing has to go.
func none(t *testing.T, k *cache.Cache, block int) {
	t.Helper()
	if l, is := k.Goes(block); is || l != (api.Line{}) {
		t.Error("Goes", block, l, is)
	}
}

// order is in which order the lines of a full set would go, if each time one comes for the one that goes: it tells all that is remembered of which ways were used. k stays as it is; its blocks are none of the last ones of the set.
func order(t *testing.T, k *cache.Cache, set, sets, ways int) []int {
	t.Helper()
	k = k.Copy()
	var l []int
	for b := 256 - sets + set; len(l) < ways; b -= sets {
		x, is := k.Goes(b)
		if !is || !k.Drop(x.Block) {
			t.Fatal("Goes", b, x, is)
		}
		l = append(l, x.Block)
		put(t, k, line(b, api.StAlone))
	}
	return l
}

func TestNumbersOfTheDocument(t *testing.T) {
	if api.OK != 0 || api.ErrNil != 1 || api.ErrArg != 2 || api.ErrNone != 4 || api.ErrRange != 5 || api.ErrFull != 7 || api.ErrState != 8 {
		t.Error("errors", api.OK, api.ErrNil, api.ErrArg, api.ErrNone, api.ErrRange, api.ErrFull, api.ErrState)
	}
	if api.StNone != 0 || api.StShared != 1 || api.StAlone != 2 || api.StOwn != 3 || api.MaxBlocks != 256 || api.BlockWords != 16 {
		t.Error("states", api.StNone, api.StShared, api.StAlone, api.StOwn, api.MaxBlocks, api.BlockWords)
	}
}

// P7.1: a new cache has nothing, and room for as many lines as it has ways, in each of its sets.
func TestNew(t *testing.T) {
	for _, x := range shapes {
		sets, ways := x[0], x[1]
		k := made(t, sets, ways)
		holds(t, k)
		for b := range 256 {
			none(t, k, b)
		}
		for b := range sets * ways {
			none(t, k, b)
			put(t, k, line(b, api.StOwn))
		}
		for b := sets * ways; b < 256; b++ {
			if e := k.Put(line(b, api.StOwn)); e != api.ErrFull {
				t.Error("Put", x, b, e)
			}
			goes(t, k, b, b%sets)
		}
		if k.Len() != sets*ways {
			t.Error("Len", x, k.Len())
		}
	}
}

// P7.1: plans that may not be, and the greatest and the least one that may.
func TestNewArg(t *testing.T) {
	for _, f := range []func(c *api.Config){
		func(c *api.Config) { *c = api.Config{} },
		func(c *api.Config) { c.Cores = 0 },
		func(c *api.Config) { c.Cores = 17 },
		func(c *api.Config) { c.Sets = 0 },
		func(c *api.Config) { c.Sets = -1 },
		func(c *api.Config) { c.Sets = 3 },
		func(c *api.Config) { c.Sets = 32 },
		func(c *api.Config) { c.Sets = 1 << 62 },
		func(c *api.Config) { c.Sets = math.MinInt },
		func(c *api.Config) { c.Ways = 0 },
		func(c *api.Config) { c.Ways = -4 },
		func(c *api.Config) { c.Ways = 3 },
		func(c *api.Config) { c.Ways = 8 },
		func(c *api.Config) { c.Ways = math.MinInt },
		func(c *api.Config) { c.Blocks = 1 },
		func(c *api.Config) { c.Blocks = 257 },
		func(c *api.Config) { c.Logs = 0 },
		func(c *api.Config) { c.Logs = 5 },
		func(c *api.Config) { c.Backs = 0 },
		func(c *api.Config) { c.Nest = 9 },
		func(c *api.Config) { c.Tries = -1 },
		func(c *api.Config) { c.Tries = 9 },
		func(c *api.Config) { c.Cores, c.Logs = 5, 2 },
	} {
		c := planOf(2, 2)
		f(&c)
		if k, e := cache.New(c); k != nil || e != api.ErrArg {
			t.Error("New", c, k, e)
		}
	}
	for _, c := range []api.Config{
		{Cores: 1, Sets: 1, Ways: 1, Blocks: 2, Logs: 1, Backs: 1, Nest: 1, Tries: 0},
		{Cores: 16, Sets: 16, Ways: 4, Blocks: 256, Logs: 4, Backs: 4, Nest: 8, Tries: 8},
	} {
		if k, e := cache.New(c); k == nil || e != api.OK || k.Len() != 0 {
			t.Error("New", c, k, e)
		}
	}
}

// P7.1: caches have nothing to do with one another.
func TestNewIsAnother(t *testing.T) {
	k, q := made(t, 2, 2), made(t, 2, 2)
	put(t, k, line(0, api.StOwn), line(1, api.StShared))
	holds(t, q)
	put(t, q, line(0, api.StShared))
	holds(t, k, line(0, api.StOwn), line(1, api.StShared))
}

// R4: no cache.
func TestNil(t *testing.T) {
	var k *cache.Cache
	for _, b := range append([]int{0, 1, 4, 255}, noBlocks...) {
		if l, is := k.Find(b); l != (api.Line{}) || is {
			t.Error("Find", b, l, is)
		}
		for _, s := range append(states, noStates...) {
			if e := k.Put(line(b, s)); e != api.ErrNil {
				t.Error("Put", b, s, e)
			}
			if e := k.Turn(b, s); e != api.ErrNil {
				t.Error("Turn", b, s, e)
			}
		}
		if k.Drop(b) || k.Use(b) {
			t.Error("Drop, Use", b)
		}
		none(t, k, b)
		for _, w := range append([]int{0, 15}, noWords...) {
			if e := k.Write(b, w, 5); e != api.ErrNil {
				t.Error("Write", b, w, e)
			}
		}
	}
	for l := range k.All() {
		t.Error("All", l)
	}
	if k.Len() != 0 || k.Copy() != nil {
		t.Error("Len, Copy", k.Len(), k.Copy())
	}
}

// P7.2: each block that may be, whatever its plan's blocks are, is found as it was put, in each state.
func TestPutFind(t *testing.T) {
	for _, x := range shapes {
		for b := range 256 {
			for _, s := range states {
				k := made(t, x[0], x[1])
				put(t, k, line(b, s))
				if l, is := k.Find(b); l != line(b, s) || !is || k.Len() != 1 {
					t.Error("Find", x, b, l, is, k.Len())
				}
				for _, other := range []int{b - 1, b + 1, b - x[0], b + x[0], b - 256, b + 256, -b - 1, b + 1<<32} {
					if l, is := k.Find(other); l != (api.Line{}) || is {
						t.Error("Find", x, b, other, l, is)
					}
				}
			}
		}
	}
}

// P7.2: lines that may not be, in a cache that has nothing, that has some, and that is full: nothing changes.
func TestPutArg(t *testing.T) {
	for _, full := range []int{0, 3, 8} {
		k := made(t, 2, 4)
		for b := range full {
			put(t, k, line(b, api.StAlone))
		}
		was, then := lines(k), 0
		for _, b := range append([]int{0, 1, 2, 4, 9, 255}, noBlocks...) {
			for _, s := range append(states, noStates...) {
				if b >= 0 && b < 256 && s >= 1 && s <= 3 {
					continue
				}
				then++
				if e := k.Put(line(b, s)); e != api.ErrArg {
					t.Error("Put", b, s, e)
				}
			}
		}
		holds(t, k, was...)
		if full == 8 && !slices.Equal(order(t, k, 0, 2, 4), order(t, filled(t, 2, 4, api.StAlone), 0, 2, 4)) {
			t.Error("behind what was refused", order(t, k, 0, 2, 4))
		}
		if then < 500 {
			t.Error("too few", then)
		}
	}
}

// P7.2: a block that is put again has the new line, where the old one stood, in a full set as well.
func TestPutAgain(t *testing.T) {
	for _, x := range shapes {
		k := filled(t, x[0], x[1], api.StOwn)
		want := lines(k)
		for i := range want {
			for _, s := range states {
				l := api.Line{Block: want[i].Block, State: s, Data: api.Block{2: uint32(s), 15: 9}}
				put(t, k, l)
				want[i] = l
				holds(t, k, want...)
			}
		}
	}
	k := made(t, 1, 4)
	put(t, k, shared(1, 2, 3)...)
	k.Drop(1)
	put(t, k, line(3, api.StOwn))
	holds(t, k, line(2, api.StShared), line(3, api.StOwn))
}

// P7.2: what comes into a full set is refused, and nothing changes; sets beside it have room still.
func TestPutFull(t *testing.T) {
	for _, x := range shapes {
		sets, ways := x[0], x[1]
		for set := range sets {
			k := made(t, sets, ways)
			var want []api.Line
			for way := range ways {
				want = append(want, line(set+way*sets, api.StAlone))
			}
			put(t, k, want...)
			was := order(t, k, set, sets, ways)
			for b := set + ways*sets; b < 256; b += sets {
				if e := k.Put(line(b, api.StOwn)); e != api.ErrFull {
					t.Error("Put", x, b, e)
				}
			}
			holds(t, k, want...)
			if now := order(t, k, set, sets, ways); !slices.Equal(now, was) {
				t.Error("behind what was refused", x, now, "not", was)
			}
			for other := range sets {
				if other != set {
					none(t, k, other+128)
					put(t, k, line(other+128, api.StShared))
				}
			}
			if k.Len() != ways+sets-1 {
				t.Error("Len", x, k.Len())
			}
		}
	}
}

// P7.2: a lower way that has come free is taken first.
func TestPutLowestFree(t *testing.T) {
	k := filled(t, 1, 4, api.StShared)
	k.Drop(2)
	k.Drop(1)
	put(t, k, line(8, api.StShared))
	holds(t, k, shared(0, 8, 3)...)
	put(t, k, line(9, api.StShared))
	holds(t, k, shared(0, 8, 9, 3)...)
	k.Drop(3)
	k.Drop(0)
	put(t, k, line(10, api.StShared))
	holds(t, k, shared(10, 8, 9)...)
	put(t, k, line(11, api.StShared))
	holds(t, k, shared(10, 8, 9, 11)...)
	if e := k.Put(line(12, api.StShared)); e != api.ErrFull {
		t.Error("Put", e)
	}
}

// P7.2, P7.4: which way is used by what is put: 2 ways of which each was put last, and 4.
func TestPutUses(t *testing.T) {
	k := filled(t, 1, 2, api.StAlone)
	goes(t, k, 7, 0)
	put(t, k, line(0, api.StOwn))
	goes(t, k, 7, 1)
	put(t, k, line(1, api.StShared))
	goes(t, k, 7, 0)
	k.Drop(0)
	put(t, k, line(5, api.StShared))
	goes(t, k, 7, 1)

	k = filled(t, 1, 4, api.StAlone)
	for i, want := range []int{2, 2, 0, 0} {
		put(t, k, line(i, api.StShared))
		goes(t, k, 7, want)
	}
	put(t, k, line(0, api.StShared))
	goes(t, k, 7, 2)
	put(t, k, line(2, api.StShared))
	goes(t, k, 7, 1)
}

// P7.3: what is dropped is gone, once; nothing else is.
func TestDrop(t *testing.T) {
	for _, x := range shapes {
		k := filled(t, x[0], x[1], api.StOwn)
		want := lines(k)
		for len(want) > 0 {
			i := len(want) / 2
			b := want[i].Block
			if !k.Drop(b) {
				t.Error("Drop", x, b)
			}
			want = slices.Delete(want, i, i+1)
			holds(t, k, want...)
			none(t, k, b)
			none(t, k, b+128)
			if k.Drop(b) || k.Use(b) {
				t.Error("Drop, Use again", x, b)
			}
			if e, f := k.Write(b, 0, 1), k.Turn(b, api.StOwn); e != api.ErrNone || f != api.ErrNone {
				t.Error("Write, Turn", x, b, e, f)
			}
			holds(t, k, want...)
		}
	}
}

// P7.3, R2: no line of the block: false, and nothing changes.
func TestDropUseNone(t *testing.T) {
	for _, full := range []int{0, 1, 5, 8} {
		k := made(t, 4, 2)
		for b := range full {
			put(t, k, line(b, api.StOwn))
		}
		was := lines(k)
		for _, b := range append([]int{8, 9, 11, 12, 128, 252, 255}, noBlocks...) {
			if k.Drop(b) || k.Use(b) {
				t.Error("Drop, Use", b)
			}
		}
		holds(t, k, was...)
		if full == 8 {
			for set := range 4 {
				goes(t, k, 100+set, set)
			}
		}
	}
}

// P7.3: which way is used, of 2 ways and of 4.
func TestUse(t *testing.T) {
	k := filled(t, 1, 2, api.StAlone)
	for _, b := range []int{0, 0, 1, 0, 1, 1} {
		if !k.Use(b) {
			t.Error("Use", b)
		}
		goes(t, k, 9, 1-b)
	}
	k = filled(t, 2, 4, api.StShared)
	other := order(t, k, 1, 2, 4)
	for _, x := range []struct{ use, goes int }{{0, 4}, {4, 2}, {2, 6}, {6, 0}, {6, 0}, {4, 0}, {0, 6}} {
		if !k.Use(x.use) {
			t.Error("Use", x)
		}
		goes(t, k, 8, x.goes)
	}
	holds(t, k, shared(0, 2, 4, 6, 1, 3, 5, 7)...)
	if now := order(t, k, 1, 2, 4); !slices.Equal(now, other) {
		t.Error("a set that was not used", now, "not", other)
	}
	// Of the ways 0 and 1 the way 0 was used last: it stays so when its line goes, and when 1's does.
	k = filled(t, 1, 4, api.StShared)
	k.Use(0)
	k.Drop(1)
	k.Drop(0)
	none(t, k, 8)
	put(t, k, line(1, api.StShared))
	put(t, k, line(5, api.StShared))
	holds(t, k, shared(1, 5, 2, 3)...)
	goes(t, k, 8, 2)
}

// P7.3, P7.2: a set remembers beyond what was dropped which ways were used.
func TestDropForgetsNothing(t *testing.T) {
	k := filled(t, 1, 4, api.StShared)
	// The ways 2 and 3: 2 was used last, then 0; the bits point to 3 behind that.
	k.Use(2)
	k.Use(0)
	k.Drop(1)
	put(t, k, line(9, api.StShared))
	goes(t, k, 8, 3)
	k.Drop(3)
	k.Drop(0)
	put(t, k, line(10, api.StShared), line(11, api.StShared))
	holds(t, k, shared(10, 9, 2, 11)...)
	goes(t, k, 8, 9)
}

// P7.4: nothing has to go: the block is there, a way is free, or it is no block.
func TestGoesNone(t *testing.T) {
	for _, x := range shapes {
		sets, ways := x[0], x[1]
		k := filled(t, sets, ways, api.StOwn)
		for b := range sets * ways {
			none(t, k, b)
		}
		for _, b := range noBlocks {
			none(t, k, b)
		}
		for b := range sets * ways {
			q := k.Copy()
			q.Drop(b)
			for c := range 256 {
				if c%sets == b%sets || c < sets*ways {
					none(t, q, c)
				} else {
					goes(t, q, c, c%sets)
				}
			}
		}
	}
}

// P7.4: the line in the way that has its turn, for each block of the set that is not there.
func TestGoes(t *testing.T) {
	for _, x := range shapes {
		sets, ways := x[0], x[1]
		k := filled(t, sets, ways, api.StAlone)
		for b := sets * ways; b < 256; b++ {
			goes(t, k, b, b%sets)
		}
		for set := range sets {
			want := map[int][]int{1: {0}, 2: {0, 1}, 4: {0, 2, 1, 3}}[ways]
			got := order(t, k, set, sets, ways)
			for i, way := range want {
				if got[i] != set+way*sets {
					t.Error("order", x, set, got)
				}
			}
		}
	}
}

// P7.5: each word of a line that is alone, or own: it is own then, that word is x, all else is as it was.
func TestWrite(t *testing.T) {
	for _, s := range []api.State{api.StAlone, api.StOwn} {
		for word := range 16 {
			k := filled(t, 2, 2, s)
			for _, x := range []uint32{0, 1, math.MaxUint32, 77} {
				want := lines(k)
				want[2].Data[word], want[2].State = x, api.StOwn
				if e := k.Write(want[2].Block, word, x); e != api.OK {
					t.Error("Write", s, word, e)
				}
				holds(t, k, want...)
			}
		}
	}
}

// P7.5: what is written is used.
func TestWriteUses(t *testing.T) {
	for _, s := range []api.State{api.StAlone, api.StOwn} {
		k := filled(t, 1, 4, s)
		for _, x := range []struct{ write, goes int }{{0, 2}, {2, 1}, {1, 3}, {3, 0}, {3, 0}, {2, 0}, {0, 3}} {
			if e := k.Write(x.write, 5, 5); e != api.OK {
				t.Error("Write", x, e)
			}
			goes(t, k, 8, x.goes)
		}
	}
}

// P7.5: each error, and the first one of several; nothing changes, and nothing is used.
func TestWriteErrors(t *testing.T) {
	for _, s := range states {
		k := filled(t, 1, 2, s)
		was := lines(k)
		refused := func(b, word int, want api.Errno) {
			t.Helper()
			if e := k.Write(b, word, 9); e != want {
				t.Error("Write", s, b, word, e, "not", want)
			}
		}
		for _, b := range append([]int{2, 3, 255}, noBlocks...) {
			for _, w := range append([]int{0, 1, 15}, noWords...) {
				refused(b, w, api.ErrNone)
			}
		}
		for b := range 2 {
			for _, w := range noWords {
				refused(b, w, api.ErrRange)
			}
		}
		if s == api.StShared {
			for w := range 16 {
				refused(0, w, api.ErrState)
				refused(1, w, api.ErrState)
			}
		}
		holds(t, k, was...)
		for _, b := range []int{1, 0} {
			k.Use(b)
			refused(1-b, 16, api.ErrRange)
			if s == api.StShared {
				refused(1-b, 0, api.ErrState)
			}
			refused(2, 0, api.ErrNone)
			goes(t, k, 2, 1-b)
		}
		holds(t, k, was...)
	}
}

// P7.5: from each state to each; the words stay, and nothing is used.
func TestTurn(t *testing.T) {
	for _, from := range states {
		for _, to := range states {
			for _, x := range shapes {
				k := filled(t, x[0], x[1], from)
				want := lines(k)
				for i := range want {
					if e := k.Turn(want[i].Block, to); e != api.OK {
						t.Error("Turn", x, i, to, e)
					}
					want[i].State = to
				}
				holds(t, k, want...)
				for set := range x[0] {
					goes(t, k, x[0]*x[1]+set, set)
				}
			}
		}
	}
}

// P7.5: a line may be written behind Turn, or may no more.
func TestTurnWrite(t *testing.T) {
	k := made(t, 1, 1)
	put(t, k, line(3, api.StShared))
	for _, x := range []struct {
		to   api.State
		want api.Errno
	}{{2, api.OK}, {1, api.ErrState}, {3, api.OK}, {1, api.ErrState}, {2, api.OK}} {
		was, _ := k.Find(3)
		if e := k.Turn(3, x.to); e != api.OK {
			t.Error("Turn", x, e)
		}
		was.State = x.to
		holds(t, k, was)
		if e := k.Write(3, 4, was.Data[4]+1); e != x.want {
			t.Error("Write", x, e)
		}
		if x.want == api.OK {
			was.State, was.Data[4] = api.StOwn, was.Data[4]+1
		}
		holds(t, k, was)
	}
}

// P7.5: each error, and the first one of several; nothing changes.
func TestTurnErrors(t *testing.T) {
	for _, s := range states {
		k := filled(t, 2, 2, s)
		was := lines(k)
		for _, b := range append([]int{4, 5, 6, 255}, noBlocks...) {
			for _, to := range append(states, noStates...) {
				if e := k.Turn(b, to); e != api.ErrNone {
					t.Error("Turn", b, to, e)
				}
			}
		}
		for b := range 4 {
			for _, to := range noStates {
				if e := k.Turn(b, to); e != api.ErrArg {
					t.Error("Turn", b, to, e)
				}
			}
		}
		holds(t, k, was...)
		goes(t, k, 4, 0)
		goes(t, k, 5, 1)
	}
}

// P7.3 to P7.5: a free way is nobody's, also not of the block 0, which a line without anything has.
func TestFreeIsNobodys(t *testing.T) {
	k := made(t, 2, 2)
	for range 2 {
		if l, is := k.Find(0); l != (api.Line{}) || is {
			t.Error("Find", l, is)
		}
		if k.Drop(0) || k.Use(0) {
			t.Error("Drop, Use")
		}
		if e, f := k.Write(0, 0, 1), k.Turn(0, api.StOwn); e != api.ErrNone || f != api.ErrNone {
			t.Error("Write, Turn", e, f)
		}
		holds(t, k)
		put(t, k, line(0, api.StOwn), line(2, api.StOwn))
		k.Drop(0)
		k.Drop(2)
	}
}

// P7.4: what is only asked, or refused, uses no way: of 4, what would go stays the same.
func TestAskedIsNotUsed(t *testing.T) {
	k := filled(t, 1, 4, api.StShared)
	for _, last := range []int{3, 0, 2, 1, 0, 3} {
		k.Use(last)
		was := order(t, k, 0, 1, 4)
		for b := -1; b < 6; b++ {
			k.Find(b)
			k.Goes(b)
			k.Turn(b, api.StShared)
			k.Turn(b, api.StNone)
			k.Write(b, 0, 1)
			k.Write(b, 16, 1)
			k.Put(api.Line{Block: b, State: 4})
		}
		k.Put(line(9, api.StShared))
		k.Drop(9)
		k.Use(9)
		k.Len()
		k.Copy().Use(was[0])
		for range k.All() {
		}
		if now := order(t, k, 0, 1, 4); !slices.Equal(now, was) {
			t.Error("behind what uses nothing", last, now, "not", was)
		}
	}
	holds(t, k, shared(0, 1, 2, 3)...)
}

// P7.1: set by set, way by way, whatever the order in which they were put.
func TestAllOrder(t *testing.T) {
	k := made(t, 4, 2)
	put(t, k, shared(7, 3, 0, 6, 252, 1, 254)...)
	holds(t, k, shared(0, 252, 1, 6, 254, 7, 3)...)
	k.Drop(0)
	k.Drop(7)
	holds(t, k, shared(252, 1, 6, 254, 3)...)
	put(t, k, shared(11, 4, 5)...)
	holds(t, k, shared(4, 252, 1, 5, 6, 254, 11, 3)...)
}

// P7.1: who goes over the lines may leave at any one, and is told no more then.
func TestAllLeft(t *testing.T) {
	k := made(t, 2, 4)
	put(t, k, shared(0, 1, 2, 3, 4, 5)...)
	k.Drop(2)
	want := shared(0, 4, 1, 3, 5)
	for stop := range want {
		var got []api.Line
		k.All()(func(l api.Line) bool {
			got = append(got, l)
			return len(got) <= stop
		})
		if !slices.Equal(got, want[:stop+1]) {
			t.Error("All left at", stop, blocksOf(got))
		}
		var looped []api.Line
		for l := range k.All() {
			if looped = append(looped, l); len(looped) > stop {
				break
			}
		}
		if !slices.Equal(looped, want[:stop+1]) {
			t.Error("All left at", stop, blocksOf(looped))
		}
	}
	holds(t, k, want...)
}

// P7.1: what All answered goes over the lines again, within itself, and over what there is by then.
func TestAllAgain(t *testing.T) {
	k := made(t, 1, 4)
	all := k.All()
	put(t, k, shared(1, 2)...)
	var got []int
	for l := range all {
		for m := range all {
			got = append(got, 10*l.Block+m.Block)
		}
	}
	if !slices.Equal(got, []int{11, 12, 21, 22}) {
		t.Error(got)
	}
	k.Drop(1)
	put(t, k, shared(5, 6)...)
	got = nil
	for l := range all {
		got = append(got, l.Block)
	}
	if !slices.Equal(got, []int{5, 2, 6}) {
		t.Error(got)
	}
	// What was told may be dropped on the way.
	for l := range all {
		if !k.Drop(l.Block) {
			t.Error("Drop", l.Block)
		}
	}
	holds(t, k)
}

// P7.1: a copy has all that there is, and remembers all that was used.
func TestCopy(t *testing.T) {
	for _, x := range shapes {
		sets, ways := x[0], x[1]
		k := filled(t, sets, ways, api.StAlone)
		for set := range sets {
			for way := range ways {
				k.Use(set + sets*((way*3+set)%ways))
				q := k.Copy()
				if q == nil || q == k {
					t.Fatal("Copy", q)
				}
				holds(t, q, lines(k)...)
				if a, b := order(t, q, set, sets, ways), order(t, k, set, sets, ways); !slices.Equal(a, b) {
					t.Error("Copy", x, set, a, b)
				}
			}
		}
	}
	holds(t, made(t, 2, 2).Copy())
}

// P7.1: a copy and what it was made of go on apart, whichever is changed, and however.
func TestCopyGoesOnApart(t *testing.T) {
	changes := []func(k *cache.Cache){
		func(k *cache.Cache) { k.Drop(0) },
		func(k *cache.Cache) { k.Drop(3) },
		func(k *cache.Cache) { k.Use(0) },
		func(k *cache.Cache) { k.Use(1) },
		func(k *cache.Cache) { k.Write(2, 3, 9) },
		func(k *cache.Cache) { k.Turn(1, api.StShared) },
		func(k *cache.Cache) { k.Put(api.Line{Block: 1, State: api.StOwn}) },
		func(k *cache.Cache) {
			k.Drop(1)
			k.Put(line(9, api.StOwn))
		},
	}
	for i, change := range changes {
		for turned := range 2 {
			k := filled(t, 2, 2, api.StAlone)
			want := lines(k)
			q := k.Copy()
			if turned == 1 {
				k, q = q, k
			}
			change(k)
			holds(t, q, want...)
			goes(t, q, 10, 0)
			goes(t, q, 11, 1)
			was := lines(k)
			for _, again := range changes {
				again(q)
			}
			if got := lines(k); !slices.Equal(got, was) {
				t.Error("change", i, turned, blocksOf(got), "not", blocksOf(was))
			}
		}
	}
}

// model is what the chapter says of a cache, told otherwise: a line's place is kept by its block; of each set, which way was used last, of the ways 0 and 1, of 2 and 3, and of all (-1: none yet).
type model struct {
	sets, ways int
	lines      map[int]api.Line
	at         map[int]int
	last       [16][3]int
}

func modelOf(sets, ways int) *model {
	m := &model{sets: sets, ways: ways, lines: map[int]api.Line{}, at: map[int]int{}}
	for i := range m.last {
		m.last[i] = [3]int{-1, -1, -1}
	}
	return m
}

func (m *model) copied() *model {
	q := *m
	q.lines, q.at = map[int]api.Line{}, map[int]int{}
	for b, l := range m.lines {
		q.lines[b], q.at[b] = l, m.at[b]
	}
	return &q
}

// in is the block that has a way of a set; -1, if none has.
func (m *model) in(set, way int) int {
	for b := range m.lines {
		if b%m.sets == set && m.at[b] == way {
			return b
		}
	}
	return -1
}

func (m *model) free(set int) int {
	for way := range m.ways {
		if m.in(set, way) < 0 {
			return way
		}
	}
	return -1
}

func (m *model) used(b int) {
	last, way := &m.last[b%m.sets], m.at[b]
	last[way/2], last[2] = way, way
}

// turn is the way that has its turn: in the half that was not used last, what was not used last in it.
func (m *model) turn(set int) int {
	last := m.last[set]
	switch {
	case m.ways == 1 || m.ways == 2 && last[2] < 0:
		return 0
	case m.ways == 2:
		return 1 - last[2]
	}
	half := 0
	if last[2] >= 0 && last[2] < 2 {
		half = 1
	}
	if last[half] == 2*half {
		return 2*half + 1
	}
	return 2 * half
}

func (m *model) put(l api.Line) api.Errno {
	if _, is := m.lines[l.Block]; !is {
		way := m.free(l.Block % m.sets)
		if way < 0 {
			return api.ErrFull
		}
		m.at[l.Block] = way
	}
	m.lines[l.Block] = l
	m.used(l.Block)
	return api.OK
}

func (m *model) write(b, word int, x uint32) api.Errno {
	l, is := m.lines[b]
	switch {
	case !is:
		return api.ErrNone
	case word < 0 || word > 15:
		return api.ErrRange
	case l.State == 1:
		return api.ErrState
	}
	l.Data[word], l.State = x, 3
	m.lines[b] = l
	m.used(b)
	return api.OK
}

func (m *model) turned(b int, s api.State) api.Errno {
	l, is := m.lines[b]
	switch {
	case !is:
		return api.ErrNone
	case s < 1 || s > 3:
		return api.ErrArg
	}
	l.State = s
	m.lines[b] = l
	return api.OK
}

func (m *model) all() []api.Line {
	var l []api.Line
	for set := range m.sets {
		for way := range m.ways {
			if b := m.in(set, way); b >= 0 {
				l = append(l, m.lines[b])
			}
		}
	}
	return l
}

// holdsModel tells what is to be seen of k, where it is to be as m, of all blocks below most.
func holdsModel(t *testing.T, k *cache.Cache, m *model, most int) {
	t.Helper()
	if got, want := lines(k), m.all(); !slices.Equal(got, want) || k.Len() != len(want) {
		t.Fatal("All", blocksOf(got), k.Len(), "not", blocksOf(want), got, want)
	}
	for b := range most {
		x, there := m.lines[b]
		if l, is := k.Find(b); l != x || is != there {
			t.Fatal("Find", b, l, is, "not", x)
		}
		if there || m.free(b%m.sets) >= 0 {
			none(t, k, b)
		} else {
			goes(t, k, b, m.in(b%m.sets, m.turn(b%m.sets)))
		}
	}
}

// mixed is a row of numbers that are as good as picked at random; the same ones each time.
func mixed(m uint32) func(below int) int {
	return func(below int) int {
		m = m*1664525 + 1013904223
		return int(m>>8) % below
	}
}

// step does one thing to a cache and to its model.
func step(t *testing.T, k *cache.Cache, m *model, pick func(below int) int, most int) {
	t.Helper()
	b := pick(most)
	_, there := m.lines[b]
	switch pick(8) {
	case 0, 1, 2:
		l := line(b, states[pick(3)])
		l.Data[pick(16)] = uint32(pick(1 << 20))
		if e, want := k.Put(l), m.put(l); e != want {
			t.Fatal("Put", b, e, "not", want)
		}
	case 3:
		if is := k.Drop(b); is != there {
			t.Fatal("Drop", b, is)
		}
		delete(m.lines, b)
		delete(m.at, b)
	case 4, 5:
		if is := k.Use(b); is != there {
			t.Fatal("Use", b, is)
		}
		if there {
			m.used(b)
		}
	case 6:
		word, x := pick(18)-1, uint32(pick(1<<20))
		if e, want := k.Write(b, word, x), m.write(b, word, x); e != want {
			t.Fatal("Write", b, word, e, "not", want)
		}
	case 7:
		s := api.State(pick(5))
		if e, want := k.Turn(b, s), m.turned(b, s); e != want {
			t.Fatal("Turn", b, s, e, "not", want)
		}
	}
}

// P7.6, P7.1 to P7.5: whatever is done, to caches and to copies of them: they are as the model is.
func TestRuns(t *testing.T) {
	for i, x := range shapes {
		pick := mixed(uint32(i))
		most := min(256, 2*x[0]*x[1]+1)
		caches, models := []*cache.Cache{made(t, x[0], x[1])}, []*model{modelOf(x[0], x[1])}
		for n := range 1500 {
			j := pick(len(caches))
			step(t, caches[j], models[j], pick, most)
			if n%400 == 399 {
				caches, models = append(caches, caches[j].Copy()), append(models, models[j].copied())
			}
			if n%10 != 0 {
				j = pick(len(caches))
				holdsModel(t, caches[j], models[j], most)
				continue
			}
			for j := range caches {
				holdsModel(t, caches[j], models[j], most)
			}
		}
	}
}

// P7.6: there are never two lines of a block, nor more of a set than ways.
func TestNeverTwo(t *testing.T) {
	for i, x := range shapes {
		k, pick := made(t, x[0], x[1]), mixed(uint32(i+50))
		for range 2000 {
			if b := pick(3 * x[0] * x[1]); pick(3) > 0 {
				k.Put(line(b, states[pick(3)]))
			} else {
				k.Drop(b)
			}
			blocks, sets := map[int]int{}, map[int]int{}
			for l := range k.All() {
				blocks[l.Block]++
				sets[l.Block%x[0]]++
				if blocks[l.Block] > 1 || sets[l.Block%x[0]] > x[1] {
					t.Fatal(x, blocksOf(lines(k)))
				}
			}
		}
	}
}

// The chapter's table.
func TestExamples(t *testing.T) {
	k := made(t, 1, 2)
	if a, b, c := k.Put(line(4, api.StShared)), k.Put(line(6, api.StAlone)), k.Put(line(5, api.StShared)); a != api.OK || b != api.OK || c != api.ErrFull {
		t.Error("Put", a, b, c)
	}
	goes(t, k, 5, 4)
	if !k.Use(4) {
		t.Error("Use")
	}
	goes(t, k, 5, 6)
	if is, e := k.Drop(6), k.Put(line(5, api.StShared)); !is || e != api.OK {
		t.Error("Drop, Put", is, e)
	}
	if l, is := k.Find(6); l != (api.Line{}) || is {
		t.Error("Find", l, is)
	}
	if e := k.Write(4, 0, 1); e != api.ErrState {
		t.Error("Write", e)
	}
	if a, b := k.Turn(4, api.StAlone), k.Write(4, 0, 1); a != api.OK || b != api.OK {
		t.Error("Turn, Write", a, b)
	}
	if l, is := k.Find(4); l.State != api.StOwn || l.Data[0] != 1 || !is {
		t.Error("Find", l, is)
	}
}
