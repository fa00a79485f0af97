package plan_test

import (
	"math"
	"testing"

	"undertow/api"
	"undertow/plan"
)

// The chapter's plan.
var small = api.Config{Cores: 2, Sets: 2, Ways: 2, Blocks: 10, Logs: 1, Backs: 1, Nest: 1, Tries: 1}

// plans that may be, the least one and such as have fields at their greatest among them.
var plans = []api.Config{
	small,
	{Cores: 1, Sets: 1, Ways: 1, Blocks: 2, Logs: 1, Backs: 1, Nest: 1, Tries: 0},
	{Cores: 16, Sets: 16, Ways: 4, Blocks: 256, Logs: 4, Backs: 4, Nest: 8, Tries: 8},
	{Cores: 16, Sets: 8, Ways: 2, Blocks: 65, Logs: 4, Backs: 2, Nest: 3, Tries: 0},
	{Cores: 16, Sets: 4, Ways: 1, Blocks: 17, Logs: 1, Backs: 3, Nest: 7, Tries: 5},
	{Cores: 1, Sets: 16, Ways: 4, Blocks: 256, Logs: 1, Backs: 1, Nest: 1, Tries: 0},
	{Cores: 3, Sets: 4, Ways: 4, Blocks: 100, Logs: 3, Backs: 4, Nest: 2, Tries: 7},
	{Cores: 5, Sets: 2, Ways: 1, Blocks: 11, Logs: 2, Backs: 1, Nest: 8, Tries: 8},
	{Cores: 4, Sets: 8, Ways: 2, Blocks: 32, Logs: 4, Backs: 4, Nest: 4, Tries: 4},
}

// field is one of a plan's, and all that it may be.
type field struct {
	name string
	of   func(c *api.Config) *int
	may  []int
}

func upTo(least, most int) []int {
	var l []int
	for x := least; x <= most; x++ {
		l = append(l, x)
	}
	return l
}

var fields = []field{
	{"Cores", func(c *api.Config) *int { return &c.Cores }, upTo(1, 16)},
	{"Sets", func(c *api.Config) *int { return &c.Sets }, []int{1, 2, 4, 8, 16}},
	{"Ways", func(c *api.Config) *int { return &c.Ways }, []int{1, 2, 4}},
	{"Blocks", func(c *api.Config) *int { return &c.Blocks }, upTo(1, 256)},
	{"Logs", func(c *api.Config) *int { return &c.Logs }, upTo(1, 4)},
	{"Backs", func(c *api.Config) *int { return &c.Backs }, upTo(1, 4)},
	{"Nest", func(c *api.Config) *int { return &c.Nest }, upTo(1, 8)},
	{"Tries", func(c *api.Config) *int { return &c.Tries }, upTo(0, 8)},
}

// huge are numbers far from all that a plan has, and such as are like small ones if upper bits were dropped, or products.
var huge = []int{
	math.MinInt, math.MinInt + 1, math.MaxInt, math.MaxInt - 1, math.MinInt32, math.MaxInt32, math.MaxUint32,
	1 << 16, 1<<16 + 1, 1 << 32, 1<<32 + 1, 1<<32 + 2, 1<<32 + 4, 1<<32 + 8, 1<<32 + 16, 1 << 60, 1 << 61, 1 << 62, 1<<62 + 1, 1<<62 + 2,
	-1 << 16, -1 << 32, 1 - 1<<32, 2 - 1<<32, -1 << 62, 1 - 1<<62,
}

func has(l []int, x int) bool {
	for _, y := range l {
		if x == y {
			return true
		}
	}
	return false
}

// mayBe is P5.1 by the fields' lists.
func mayBe(c api.Config) bool {
	for _, f := range fields {
		if !has(f.may, *f.of(&c)) {
			return false
		}
	}
	return c.Blocks-c.Cores*c.Logs >= 1
}

// isNone asks each call that is handed a plan for one that may not be, whatever else is asked.
func isNone(t *testing.T, c api.Config) {
	t.Helper()
	if e := plan.May(c); e != api.ErrArg {
		t.Error("May", c, e)
	}
	if n := plan.Data(c); n != 0 {
		t.Error("Data", c, n)
	}
	for _, core := range []int{-1, 0, 1, 15, 16, math.MinInt, math.MaxInt} {
		if first, many, e := plan.Log(c, core); first != 0 || many != 0 || e != api.ErrArg {
			t.Error("Log", c, core, first, many, e)
		}
	}
	for _, addr := range []uint32{0, 2, 4, 68, 1 << 14, 1<<14 - 4, math.MaxUint32} {
		if block, word, e := plan.Where(c, addr); block != 0 || word != 0 || e != api.ErrArg {
			t.Error("Where", c, addr, block, word, e)
		}
	}
	for _, block := range []int{-1, 0, 1, 3, 255, math.MinInt, math.MaxInt} {
		if n := plan.Set(c, block); n != 0 {
			t.Error("Set", c, block, n)
		}
	}
}

func TestNumbersOfTheDocument(t *testing.T) {
	if api.OK != 0 || api.ErrArg != 2 || api.ErrRange != 5 || api.ErrAlign != 50 || api.ErrLog != 51 {
		t.Error("errors", api.OK, api.ErrArg, api.ErrRange, api.ErrAlign, api.ErrLog)
	}
	if api.MaxCores != 16 || api.MaxSets != 16 || api.MaxWays != 4 || api.MaxBlocks != 256 || api.BlockWords != 16 || api.BlockBytes != 64 {
		t.Error("limits", api.MaxCores, api.MaxSets, api.MaxWays, api.MaxBlocks, api.BlockWords, api.BlockBytes)
	}
	if api.MaxLogs != 4 || api.MaxBacks != 4 || api.MaxNest != 8 || api.MaxTries != 8 {
		t.Error("limits", api.MaxLogs, api.MaxBacks, api.MaxNest, api.MaxTries)
	}
}

// P5.1: plans that may be.
func TestMay(t *testing.T) {
	for _, c := range plans {
		if e := plan.May(c); e != api.OK {
			t.Error(c, e)
		}
		if n := plan.Data(c); n != c.Blocks-c.Cores*c.Logs || n < 1 {
			t.Error(c, n)
		}
	}
}

// P5.1: each field of each plan made any number about its bounds; of all the rest nothing is asked but that there be data.
func TestFields(t *testing.T) {
	for _, was := range plans {
		for _, f := range fields {
			for x := -20; x < 300; x++ {
				c := was
				*f.of(&c) = x
				if !mayBe(c) {
					isNone(t, c)
					continue
				}
				if e := plan.May(c); e != api.OK {
					t.Error(f.name, c, e)
				}
				if n := plan.Data(c); n != c.Blocks-c.Cores*c.Logs {
					t.Error(f.name, c, n)
				}
			}
		}
	}
}

// P5.1: the bounds, written out: what is within and what is one beyond, or no power of 2, where there is room for whatever logs.
func TestBounds(t *testing.T) {
	room := api.Config{Cores: 1, Sets: 1, Ways: 1, Blocks: 256, Logs: 1, Backs: 1, Nest: 1, Tries: 0}
	in := [][]int{{1, 2, 15, 16}, {1, 2, 4, 8, 16}, {1, 2, 4}, {2, 3, 255, 256}, {1, 2, 3, 4}, {1, 2, 3, 4}, {1, 2, 7, 8}, {0, 1, 7, 8}}
	out := [][]int{{-1, 0, 17, 32}, {-1, 0, 3, 5, 6, 7, 12, 15, 17, 32}, {-1, 0, 3, 5, 8, 16}, {-1, 0, 1, 257, 512}, {-1, 0, 5, 8}, {-1, 0, 5, 8}, {-1, 0, 9, 16}, {-2, -1, 9, 16}}
	for i, f := range fields {
		for _, x := range in[i] {
			c := room
			*f.of(&c) = x
			if e := plan.May(c); e != api.OK {
				t.Error(f.name, x, e)
			}
		}
		for _, x := range append(out[i], huge...) {
			c := room
			*f.of(&c) = x
			isNone(t, c)
		}
	}
}

// P5.1, R1: huge fields, two at a time: their products would be anything.
func TestHuge(t *testing.T) {
	for _, x := range huge {
		for _, y := range huge {
			for i, f := range fields {
				for _, g := range fields[i+1:] {
					c := small
					*f.of(&c), *g.of(&c) = x, y
					if plan.May(c) != api.ErrArg || plan.Data(c) != 0 {
						t.Error(f.name, x, g.name, y, plan.May(c), plan.Data(c))
					}
				}
			}
		}
		isNone(t, api.Config{Cores: x, Sets: x, Ways: x, Blocks: x, Logs: x, Backs: x, Nest: x, Tries: x})
	}
	isNone(t, api.Config{})
}

// P5.1: the data blocks are 1 at least, for all cores and logs.
func TestDataBlocks(t *testing.T) {
	for cores := 1; cores <= 16; cores++ {
		for logs := 1; logs <= 4; logs++ {
			for data := -2; data <= 3; data++ {
				c := api.Config{Cores: cores, Sets: 4, Ways: 2, Blocks: cores*logs + data, Logs: logs, Backs: 2, Nest: 2, Tries: 2}
				if data < 1 {
					isNone(t, c)
				} else if e, n := plan.May(c), plan.Data(c); e != api.OK || n != data {
					t.Error(c, e, n, "want", data)
				}
			}
		}
	}
}

// P5.2: each core's log, by counting on from where the data end.
func TestLog(t *testing.T) {
	for _, c := range plans {
		next := plan.Data(c)
		for core := range c.Cores {
			first, many, e := plan.Log(c, core)
			if first != next || many != c.Logs || e != api.OK {
				t.Error(c, core, first, many, e, "want", next)
			}
			next += c.Logs
		}
		if next != c.Blocks {
			t.Error(c, next)
		}
	}
}

// P5.2: cores that there are not.
func TestLogRange(t *testing.T) {
	for _, c := range plans {
		for _, core := range append([]int{-1, -2, -c.Cores, c.Cores, c.Cores + 1, 1<<32 + c.Cores - 1, 16, 17, 256}, huge...) {
			if first, many, e := plan.Log(c, core); first != 0 || many != 0 || e != api.ErrRange {
				t.Error(c, core, first, many, e)
			}
		}
	}
}

// P5.3: each address from 0 to far behind the greatest memory, of which 4 divides some.
func TestWhere(t *testing.T) {
	for _, c := range plans {
		data := c.Blocks - c.Cores*c.Logs
		addr := uint32(0)
		for b := range 260 {
			for w := range 16 {
				for rest := range 4 {
					block, word, want := 0, 0, api.OK
					switch {
					case rest != 0:
						want = api.ErrAlign
					case b >= c.Blocks:
						want = api.ErrRange
					case b >= data:
						want = api.ErrLog
					default:
						block, word = b, w
					}
					gotBlock, gotWord, e := plan.Where(c, addr)
					if gotBlock != block || gotWord != word || e != want {
						t.Fatal(c, addr, gotBlock, gotWord, e, "want", block, word, want)
					}
					addr++
				}
			}
		}
	}
}

// P5.3: great addresses, those among them that are like an address of the data if upper bits were dropped.
func TestWhereGreat(t *testing.T) {
	for _, c := range plans {
		for shift := 14; shift < 32; shift++ {
			for _, low := range []uint32{0, 4, 60, 64} {
				addr := uint32(1)<<shift + low
				if block, word, e := plan.Where(c, addr); block != 0 || word != 0 || e != api.ErrRange {
					t.Error(c, addr, block, word, e)
				}
				if block, word, e := plan.Where(c, addr+2); block != 0 || word != 0 || e != api.ErrAlign {
					t.Error(c, addr+2, block, word, e)
				}
			}
		}
		for below := range uint32(64) {
			want := api.ErrAlign
			if below%4 == 3 {
				want = api.ErrRange
			}
			if block, word, e := plan.Where(c, math.MaxUint32-below); block != 0 || word != 0 || e != want {
				t.Error(c, below, block, word, e)
			}
		}
	}
}

// P5.3: the edges of the chapter, of the plan of the examples: its data are 8 blocks, its memory 10.
func TestWhereEdges(t *testing.T) {
	for _, x := range []struct {
		addr        uint32
		block, word int
		e           api.Errno
	}{
		{0, 0, 0, api.OK}, {1, 0, 0, api.ErrAlign}, {3, 0, 0, api.ErrAlign}, {4, 0, 1, api.OK}, {60, 0, 15, api.OK}, {64, 1, 0, api.OK},
		{508, 7, 15, api.OK}, {510, 0, 0, api.ErrAlign}, {512, 0, 0, api.ErrLog}, {513, 0, 0, api.ErrAlign}, {576, 0, 0, api.ErrLog}, {636, 0, 0, api.ErrLog},
		{639, 0, 0, api.ErrAlign}, {640, 0, 0, api.ErrRange}, {641, 0, 0, api.ErrAlign}, {1 << 14, 0, 0, api.ErrRange},
		{math.MaxUint32 - 3, 0, 0, api.ErrRange}, {math.MaxUint32, 0, 0, api.ErrAlign},
	} {
		if block, word, e := plan.Where(small, x.addr); block != x.block || word != x.word || e != x.e {
			t.Error(x, block, word, e)
		}
	}
}

// P5.3: the addresses of all words, by counting on.
func TestAddr(t *testing.T) {
	next := uint32(0)
	for b := range 256 {
		for w := range 16 {
			if addr, e := plan.Addr(b, w); addr != next || e != api.OK {
				t.Error(b, w, addr, e, "want", next)
			}
			next += 4
		}
	}
}

// P5.3: blocks and words that there are not, one of them or both.
func TestAddrRange(t *testing.T) {
	none := func(block, word int) {
		t.Helper()
		if addr, e := plan.Addr(block, word); addr != 0 || e != api.ErrRange {
			t.Error(block, word, addr, e)
		}
	}
	noBlocks := append([]int{-1, -2, -256, 256, 257, 1<<32 + 255}, huge...)
	noWords := append([]int{-1, -2, -16, 16, 17, 31, 256, 1<<32 + 15}, huge...)
	for _, b := range noBlocks {
		for w := range 16 {
			none(b, w)
		}
		for _, w := range noWords {
			none(b, w)
		}
	}
	for _, w := range noWords {
		for b := range 256 {
			none(b, w)
		}
	}
}

// P5.3: sets go round as blocks rise, also behind the memory's last one.
func TestSet(t *testing.T) {
	for _, c := range plans {
		next := 0
		for b := range 1000 {
			if n := plan.Set(c, b); n != next {
				t.Error(c, b, n, "want", next)
			}
			if next++; next == c.Sets {
				next = 0
			}
		}
		for _, b := range []int{math.MaxInt, math.MaxInt32, math.MaxUint32} {
			if n := plan.Set(c, b); n != c.Sets-1 {
				t.Error(c, b, n)
			}
			if n := plan.Set(c, b-c.Sets); n != c.Sets-1 {
				t.Error(c, b, n)
			}
		}
		for _, b := range []int{1 << 16, 1 << 32, 1 << 62} {
			if n := plan.Set(c, b); n != 0 {
				t.Error(c, b, n)
			}
			if n := plan.Set(c, b+1); n != 1%c.Sets {
				t.Error(c, b+1, n)
			}
		}
	}
}

// P5.3: there is no set of a block below 0.
func TestSetBelow(t *testing.T) {
	for _, c := range plans {
		for b := -40; b < 0; b++ {
			if n := plan.Set(c, b); n != 0 {
				t.Error(c, b, n)
			}
		}
		for _, b := range []int{math.MinInt, math.MinInt + 1, math.MinInt + 3, math.MinInt32 + 1, 3 - 1<<32} {
			if n := plan.Set(c, b); n != 0 {
				t.Error(c, b, n)
			}
		}
	}
}

// P5.4: the data and all logs are all blocks, each once, for all plans by their cores, logs and data.
func TestAllBlocks(t *testing.T) {
	for cores := 1; cores <= 16; cores++ {
		for logs := 1; logs <= 4; logs++ {
			for _, blocks := range []int{cores*logs + 1, cores*logs + 2, cores*logs + 100, 256} {
				c := api.Config{Cores: cores, Sets: 1, Ways: 1, Blocks: blocks, Logs: logs, Backs: 1, Nest: 1, Tries: 0}
				seen := make([]int, blocks)
				for b := range plan.Data(c) {
					seen[b]++
				}
				for core := range cores {
					first, many, e := plan.Log(c, core)
					if e != api.OK {
						t.Fatal(c, core, e)
					}
					for b := range many {
						seen[first+b]++
					}
				}
				for b, n := range seen {
					if n != 1 {
						t.Error(c, b, n)
					}
				}
			}
		}
	}
}

// P5.4: what an address was told of is found again, if it is in the data.
func TestThereAndBack(t *testing.T) {
	for _, c := range plans {
		data := plan.Data(c)
		for b := range 256 {
			for w := range 16 {
				addr, e := plan.Addr(b, w)
				if e != api.OK {
					t.Fatal(b, w, e)
				}
				block, word, e := plan.Where(c, addr)
				if b < data && (block != b || word != w || e != api.OK) {
					t.Error(c, b, w, block, word, e)
				}
				if b >= data && (block != 0 || word != 0 || e == api.OK) {
					t.Error(c, b, w, block, word, e)
				}
			}
		}
	}
}

// P5.1 to P5.3, R2: where two errors fit it is the one that the chapter names first.
func TestFirstError(t *testing.T) {
	none := small
	none.Ways = 3
	if _, _, e := plan.Log(none, 2); e != api.ErrArg {
		t.Error("no plan, no core", e)
	}
	for _, addr := range []uint32{1, 512, 513, 640, 641, math.MaxUint32} {
		if _, _, e := plan.Where(none, addr); e != api.ErrArg {
			t.Error("no plan, no word", addr, e)
		}
	}
	for _, addr := range []uint32{513, 574, 641, 1<<14 + 1, math.MaxUint32} {
		if _, _, e := plan.Where(small, addr); e != api.ErrAlign {
			t.Error("no word's, no data block", addr, e)
		}
	}
}

// The chapter's table.
func TestExamples(t *testing.T) {
	if n := plan.Data(small); n != 8 {
		t.Error(n)
	}
	if first, many, e := plan.Log(small, 1); first != 9 || many != 1 || e != api.OK {
		t.Error(first, many, e)
	}
	if block, word, e := plan.Where(small, 68); block != 1 || word != 1 || e != api.OK {
		t.Error(block, word, e)
	}
	for addr, want := range map[uint32]api.Errno{70: api.ErrAlign, 512: api.ErrLog, 640: api.ErrRange} {
		if block, word, e := plan.Where(small, addr); block != 0 || word != 0 || e != want {
			t.Error(addr, block, word, e)
		}
	}
	sets, blocks := small, small
	sets.Sets, blocks.Blocks = 3, 2
	if plan.May(sets) != api.ErrArg || plan.May(blocks) != api.ErrArg || plan.May(small) != api.OK {
		t.Error(plan.May(sets), plan.May(blocks), plan.May(small))
	}
}
