package undo_test

import (
	"math"
	"slices"
	"testing"

	"undertow/api"
	"undertow/mem"
	"undertow/undo"
)

// huge are numbers far from all that a plan or a log has, and such as are like small ones if upper bits were dropped.
var huge = []int{
	math.MinInt, math.MinInt + 1, math.MinInt32, math.MaxInt, math.MaxInt - 1, math.MaxInt32, math.MaxUint32,
	1 << 8, 1<<8 + 1, 1<<8 + 3, 1 << 16, 1<<16 + 1, 1 << 32, 1<<32 + 1, 1<<32 + 3, 1<<32 - 1, 1 << 62, 1<<62 + 1,
	-1 << 8, 1 - 1<<8, 3 - 1<<8, -1 << 16, 1 - 1<<16, -1 << 32, 1 - 1<<32, 3 - 1<<32, -1 << 62, -1<<62 - 1,
}

// small is the plan of the chapter's examples.
var small = api.Config{Cores: 2, Sets: 2, Ways: 2, Blocks: 10, Logs: 1, Backs: 1, Nest: 1}

// planOf is a plan of so many cores, blocks, and blocks of a log.
func planOf(cores, blocks, logs int) api.Config {
	return api.Config{Cores: cores, Sets: 1, Ways: 1, Blocks: blocks, Logs: logs, Backs: 1, Nest: 1}
}

// plans are some that may be, with how many data blocks each has, and for how many entries a log has room.
var plans = []struct {
	c          api.Config
	data, room int
}{
	{small, 8, 8},
	{planOf(1, 2, 1), 1, 8},
	{planOf(1, 3, 2), 1, 16},
	{planOf(1, 256, 1), 255, 8},
	{planOf(1, 256, 4), 252, 32},
	{planOf(2, 10, 4), 2, 32},
	{planOf(3, 20, 2), 14, 16},
	{planOf(4, 40, 3), 28, 24},
	{planOf(16, 17, 1), 1, 8},
	{planOf(16, 65, 4), 1, 32},
	{planOf(16, 256, 4), 192, 32},
	{api.Config{Cores: 16, Sets: 16, Ways: 4, Blocks: 256, Logs: 1, Backs: 4, Nest: 8, Tries: 8}, 240, 8},
	{api.Config{Cores: 2, Sets: 8, Ways: 1, Blocks: 12, Logs: 3, Backs: 3, Nest: 2, Tries: 1}, 6, 24},
}

// pattern is a word of which no two are alike in a memory; none is 0, or an address of one.
func pattern(block, word int) uint32 { return 0x80000001 + uint32(block)<<8 + uint32(word)<<2 }

// filled is a memory whose words are all patterns.
func filled(t *testing.T, blocks int) *mem.Mem {
	t.Helper()
	m, e := mem.New(blocks)
	if e != api.OK {
		t.Fatal("mem.New", blocks, e)
	}
	for block := range blocks {
		for word := range 16 {
			m.SetWord(block, word, pattern(block, word))
		}
	}
	return m
}

// blocksOf are a memory's.
func blocksOf(t *testing.T, m *mem.Mem) []api.Block {
	t.Helper()
	l := make([]api.Block, m.Blocks())
	for block := range l {
		b, e := m.Block(block)
		if e != api.OK {
			t.Fatal("Block", block, e)
		}
		l[block] = b
	}
	return l
}

type entry struct{ addr, old uint32 }

// both are a log, and what the chapter says of it: its entries, and what is in the memory.
type both struct {
	log         *undo.Log
	m           *mem.Mem
	first, room int
	data        int
	want        *wanted
}

type wanted struct {
	entries []entry
	blocks  []api.Block
}

// over is a core's log over a memory.
func over(t *testing.T, c api.Config, m *mem.Mem, core int) both {
	t.Helper()
	was := blocksOf(t, m)
	l, e := undo.New(c, m, core)
	if l == nil || e != api.OK {
		t.Fatal("New", c, core, l, e)
	}
	data := c.Blocks - c.Cores*c.Logs
	return both{l, m, data + core*c.Logs, c.Logs * 8, data, &wanted{blocks: was}}
}

func made(t *testing.T, c api.Config, core int) both {
	t.Helper()
	return over(t, c, filled(t, c.Blocks), core)
}

// add, pop and clear do the same to both, and tell what was to be answered.
func (b both) add(t *testing.T, addr, old uint32, want api.Errno) {
	t.Helper()
	if e := b.log.Add(addr, old); e != want {
		t.Error("Add", addr, old, e, "not", want)
	}
	if want == api.OK {
		n := len(b.want.entries)
		b.want.entries = append(b.want.entries, entry{addr, old})
		b.want.blocks[b.first+n/8][n%8*2] = addr
		b.want.blocks[b.first+n/8][n%8*2+1] = old
	}
	b.like(t)
}

func (b both) pop(t *testing.T, want api.Errno) {
	t.Helper()
	if e := b.log.Pop(); e != want {
		t.Error("Pop", e, "not", want)
	}
	if want == api.OK {
		b.want.entries = b.want.entries[:len(b.want.entries)-1]
	}
	b.like(t)
}

func (b both) clear(t *testing.T) {
	t.Helper()
	b.log.Clear()
	b.want.entries = nil
	b.like(t)
}

// fill adds entries until there is no room; of each the address is another data word's, as long as there are so many.
func (b both) fill(t *testing.T) {
	t.Helper()
	for n := len(b.want.entries); n < b.room; n++ {
		b.add(t, uint32(4*((5*n)%(16*b.data))), 0x40000003+uint32(n), api.OK)
	}
}

// like tells whether all that is to be seen of the log, and of the memory, is what it should be; that they are asked changes nothing.
func (b both) like(t *testing.T) {
	t.Helper()
	n := len(b.want.entries)
	for range 2 {
		if x := b.log.Len(); x != n {
			t.Error("Len", x, "not", n)
		}
		if x := b.log.Room(); x != b.room-n {
			t.Error("Room", x, "not", b.room-n)
		}
		for i, want := range b.want.entries {
			if addr, old, e := b.log.At(i); addr != want.addr || old != want.old || e != api.OK {
				t.Error("At", i, addr, old, e, "not", want)
			}
		}
		for _, i := range []int{-2, -1, n, n + 1, b.room, b.room + 1} {
			if addr, old, e := b.log.At(i); addr != 0 || old != 0 || e != api.ErrNone {
				t.Error("At", i, addr, old, e)
			}
		}
		b.lasts(t)
		if l := blocksOf(t, b.m); !slices.Equal(l, b.want.blocks) {
			t.Error("memory", l, "not", b.want.blocks)
		}
	}
}

func (b both) lasts(t *testing.T) {
	t.Helper()
	want, err := entry{}, api.ErrNone
	if n := len(b.want.entries); n > 0 {
		want, err = b.want.entries[n-1], api.OK
	}
	if addr, old, e := b.log.Last(); addr != want.addr || old != want.old || e != err {
		t.Error("Last", addr, old, e, "not", want, err)
	}
}

func TestNumbersOfTheDocument(t *testing.T) {
	if api.OK != 0 || api.ErrNil != 1 || api.ErrArg != 2 || api.ErrNone != 4 || api.ErrRange != 5 || api.ErrFull != 7 {
		t.Error(api.OK, api.ErrNil, api.ErrArg, api.ErrNone, api.ErrRange, api.ErrFull)
	}
	if api.ErrAlign != 50 || api.ErrLog != 51 || api.LogWords != 2 || len(api.Block{}) != 16 {
		t.Error(api.ErrAlign, api.ErrLog, api.LogWords, len(api.Block{}))
	}
}

// fieldOf is a field of a plan, in their order.
func fieldOf(c *api.Config, i int) *int {
	return []*int{&c.Cores, &c.Sets, &c.Ways, &c.Blocks, &c.Logs, &c.Backs, &c.Nest, &c.Tries}[i]
}

// P15.1: of plans that may be, also where a field is at its bound, each core has a log, without entries; the memory stays as it is.
func TestNew(t *testing.T) {
	for _, p := range plans {
		for core := range p.c.Cores {
			b := made(t, p.c, core)
			if b.data != p.data || b.room != p.room {
				t.Fatal(p, b.data, b.room)
			}
			b.like(t)
		}
	}
	good := [][]int{{1, 2, 15, 16}, {1, 2, 4, 8, 16}, {1, 2, 4}, {2, 3, 255, 256}, {1, 2, 3, 4}, {1, 2, 3, 4}, {1, 2, 7, 8}, {0, 1, 7, 8}}
	for i, numbers := range good {
		for _, x := range numbers {
			c := planOf(1, 200, 1)
			*fieldOf(&c, i) = x
			made(t, c, c.Cores-1).like(t)
		}
	}
}

// badPlans are such as may not be: each field just past a bound, and huge; and no data block.
func badPlans() []api.Config {
	wrong := [][]int{
		{-1, 0, 17, 18}, {-1, 0, 3, 5, 6, 12, 17, 32}, {-1, 0, 3, 5, 8}, {-1, 0, 1, 2, 257},
		{-1, 0, 5}, {-1, 0, 5}, {-1, 0, 9}, {-1, 9},
	}
	l := []api.Config{{}, planOf(2, 2, 1), planOf(2, 1, 1), planOf(1, 4, 4), planOf(16, 64, 4), planOf(16, 63, 4)}
	for i, numbers := range wrong {
		for _, x := range slices.Concat(numbers, huge) {
			c := small
			if *fieldOf(&c, i) = x; i != 3 || x < 3 || x > 256 {
				l = append(l, c)
			}
		}
	}
	return l
}

// refused tells whether there is no log, for want, and the memory stays as it is.
func refused(t *testing.T, c api.Config, m *mem.Mem, core int, want api.Errno) {
	t.Helper()
	was := blocksOf(t, m)
	if l, e := undo.New(c, m, core); l != nil || e != want {
		t.Error("New", c, m.Blocks(), core, l, e, "not", want)
	}
	if !slices.Equal(blocksOf(t, m), was) {
		t.Error("New", c, core, "memory")
	}
}

// noCores are numbers that are no core's of so many.
func noCores(cores int) []int {
	return append([]int{-1, -2, -cores, -cores - 1, cores, cores + 1, 16, 17, 255}, huge...)
}

// P15.1, R2: no memory is told ahead of all else; plans that may not be, ahead of cores that there are not.
func TestNewOfWrong(t *testing.T) {
	for _, c := range append(badPlans(), small, planOf(16, 256, 4)) {
		for _, core := range append(noCores(c.Cores), 0, 1) {
			if l, e := undo.New(c, nil, core); l != nil || e != api.ErrNil {
				t.Error("New", c, core, l, e)
			}
		}
	}
	for _, c := range badPlans() {
		refused(t, c, filled(t, 10), 0, api.ErrArg)
		refused(t, c, filled(t, min(max(c.Blocks, 1), 256)), 1, api.ErrArg)
		refused(t, c, filled(t, 10), 16, api.ErrArg)
		refused(t, c, filled(t, 3), -1, api.ErrArg)
	}
}

// P15.1, R2: cores that there are not are told ahead of a memory of too few or too many blocks.
func TestNewOfNoCore(t *testing.T) {
	for _, p := range plans {
		fit, few, many := filled(t, p.c.Blocks), filled(t, p.c.Blocks-1), filled(t, min(p.c.Blocks+1, 256))
		for _, core := range noCores(p.c.Cores) {
			if core >= 0 && core < p.c.Cores {
				continue
			}
			refused(t, p.c, fit, core, api.ErrRange)
			refused(t, p.c, few, core, api.ErrRange)
			refused(t, p.c, many, core, api.ErrRange)
		}
	}
}

// P15.1: the memory is to have as many blocks as the plan, neither fewer nor more.
func TestNewOfOtherMemory(t *testing.T) {
	for _, p := range plans {
		for _, blocks := range []int{1, p.data, p.c.Blocks - 1, p.c.Blocks + 1, 2 * p.c.Blocks, 255, 256} {
			if blocks == p.c.Blocks || blocks > 256 {
				continue
			}
			m := filled(t, blocks)
			refused(t, p.c, m, 0, api.ErrArg)
			refused(t, p.c, m, p.c.Cores-1, api.ErrArg)
		}
	}
}

// P15.2, P15.3, R4: of none.
func TestNil(t *testing.T) {
	var l *undo.Log
	for _, addr := range []uint32{0, 4, 68, 70, 512, 640, math.MaxUint32} {
		if e := l.Add(addr, 5); e != api.ErrNil {
			t.Error("Add", addr, e)
		}
	}
	for _, i := range append([]int{-1, 0, 1, 7, 8}, huge...) {
		if addr, old, e := l.At(i); addr != 0 || old != 0 || e != api.ErrNil {
			t.Error("At", i, addr, old, e)
		}
	}
	if addr, old, e := l.Last(); addr != 0 || old != 0 || e != api.ErrNil {
		t.Error("Last", addr, old, e)
	}
	l.Clear()
	if l.Pop() != api.ErrNil || l.Len() != 0 || l.Room() != 0 {
		t.Error(l.Pop(), l.Len(), l.Room())
	}
}

// P15.2: each data word's address may be added, with whatever was there; each is the last one then, and stands in memory.
func TestAdd(t *testing.T) {
	olds := []uint32{0, 1, math.MaxUint32, 1 << 31, 0x01020304, 68, 512, 3}
	for _, p := range plans {
		b := made(t, p.c, p.c.Cores/2)
		for i := range 16 * p.data {
			addr, old := uint32(4*i), olds[i%len(olds)]
			if e := b.log.Add(addr, old); e != api.OK {
				t.Fatal("Add", p, addr, e)
			}
			if x, y, e := b.log.Last(); x != addr || y != old || e != api.OK || b.log.Len() != 1 {
				t.Fatal("Last", p, addr, x, y, e)
			}
			x, _ := b.m.Word(b.first, 0)
			if y, _ := b.m.Word(b.first, 1); x != addr || y != old || b.log.Pop() != api.OK {
				t.Fatal("memory", p, addr, x, y)
			}
		}
	}
}

// P15.2: entries stand one behind the other from the first word of the core's blocks on, until these are full.
func TestAddUntilFull(t *testing.T) {
	for _, p := range plans {
		for _, core := range []int{0, p.c.Cores / 2, p.c.Cores - 1} {
			b := made(t, p.c, core)
			b.fill(t)
			if b.log.Len() != p.room || b.log.Room() != 0 {
				t.Fatal(p, core, b.log.Len(), b.log.Room())
			}
			b.add(t, 0, 1, api.ErrFull)
			b.add(t, uint32(64*p.data-4), 2, api.ErrFull)
			b.pop(t, api.OK)
			b.add(t, 4, 3, api.OK)
			b.add(t, 4, 3, api.ErrFull)
		}
	}
}

// P15.2: one address may be added again and again, with the same word and with others.
func TestAddTheSame(t *testing.T) {
	b := made(t, planOf(3, 20, 2), 1)
	for n := range 16 {
		b.add(t, 68, uint32(n/2), api.OK)
	}
	b.add(t, 68, 0, api.ErrFull)
}

// wrongs are addresses that no data word of a plan has, and the errors they are told by.
func wrongs(c api.Config) map[uint32]api.Errno {
	data, all := uint32(64*(c.Blocks-c.Cores*c.Logs)), uint32(64*c.Blocks)
	l := map[uint32]api.Errno{}
	for _, addr := range []uint32{0, 4, data - 4, data, all - 4, all, 1 << 14, 1 << 16, 1 << 31, math.MaxUint32 - 3} {
		for odd := range uint32(3) {
			l[addr+odd+1] = api.ErrAlign
		}
	}
	for _, addr := range []uint32{data, data + 4, data + 60, all - 64, all - 4} {
		l[addr] = api.ErrLog
	}
	for _, addr := range []uint32{all, all + 4, all + 64, 1 << 15, 1 << 16, 1<<16 + 4, 1 << 31, math.MaxUint32 - 3, math.MaxUint32 - 63} {
		l[addr] = api.ErrRange
	}
	return l
}

// P15.2, R2: an address that is none, or lies in a log - also in the core's own - is told ahead of what has no room; nothing changes.
func TestAddOfWrong(t *testing.T) {
	for _, p := range plans {
		for _, core := range []int{0, p.c.Cores - 1} {
			b := made(t, p.c, core)
			for _, n := range []int{0, 1, p.room - 1, p.room} {
				for len(b.want.entries) < n {
					b.add(t, uint32(4*(len(b.want.entries)%16)), uint32(n), api.OK)
				}
				for addr, want := range wrongs(p.c) {
					if e := b.log.Add(addr, 7); e != want {
						t.Error("Add", p, addr, e, "not", want)
					}
				}
				b.like(t)
			}
		}
	}
}

// P15.2, P5.3: each address of a memory, and beyond it, is answered as the plan has it.
func TestAddOfEachAddress(t *testing.T) {
	const data, all = 8 * 64, 10 * 64
	for _, full := range []bool{false, true} {
		b := made(t, small, 1)
		good := api.OK
		if full {
			b.fill(t)
			good = api.ErrFull
		}
		for addr := range uint32(all + 200) {
			want := good
			switch {
			case addr%4 != 0:
				want = api.ErrAlign
			case addr >= all:
				want = api.ErrRange
			case addr >= data:
				want = api.ErrLog
			}
			e := b.log.Add(addr, 1)
			if e != want || e == api.OK && b.log.Pop() != api.OK {
				t.Error("Add", full, addr, e, "not", want)
			}
		}
	}
}

// P15.2: Last and Pop tell the entries from the last one back to the first; what stood in memory stands there still.
func TestPop(t *testing.T) {
	for _, p := range plans {
		b := made(t, p.c, p.c.Cores-1)
		b.pop(t, api.ErrNone)
		b.fill(t)
		was := slices.Clone(b.want.blocks)
		for range p.room {
			b.pop(t, api.OK)
		}
		b.pop(t, api.ErrNone)
		b.pop(t, api.ErrNone)
		if !slices.Equal(b.want.blocks, was) {
			t.Error("memory", p)
		}
	}
}

// P15.2: what is added behind a Pop stands where the entry stood that is gone.
func TestAddBehindPop(t *testing.T) {
	for _, p := range plans[:7] {
		for gone := 1; gone <= p.room; gone++ {
			b := made(t, p.c, 0)
			b.fill(t)
			for range gone {
				b.pop(t, api.OK)
			}
			b.add(t, 8, 0x55, api.OK)
			for range gone - 1 {
				b.add(t, 12, 0x66, api.OK)
			}
			b.add(t, 16, 0x77, api.ErrFull)
		}
	}
}

// P15.3: a log that is cleared, of however many entries, has none; what is added then stands from the first word on.
func TestClear(t *testing.T) {
	for _, p := range plans {
		for _, n := range []int{0, 1, 7, 8, p.room - 1, p.room} {
			b := made(t, p.c, p.c.Cores/2)
			for i := range n {
				b.add(t, uint32(4*(i%16)), uint32(i)+9, api.OK)
			}
			b.clear(t)
			b.pop(t, api.ErrNone)
			b.clear(t)
			b.fill(t)
			b.add(t, 0, 0, api.ErrFull)
		}
	}
}

// P15.3: what is no entry's place has none: far ones, those that are gone, and those that would be next.
func TestAtOfWrong(t *testing.T) {
	for _, p := range plans {
		b := made(t, p.c, 0)
		for n := range p.room + 1 {
			for _, i := range append([]int{-1, -2, -n, -n - 1, n, n + 1, p.room, p.room + 1, 8 * p.room}, huge...) {
				if i >= 0 && i < n {
					continue
				}
				if addr, old, e := b.log.At(i); addr != 0 || old != 0 || e != api.ErrNone {
					t.Error("At", p, n, i, addr, old, e)
				}
			}
			if n < p.room {
				b.add(t, uint32(4*(n%16)), 1, api.OK)
			}
		}
		b.pop(t, api.OK)
		b.clear(t)
	}
}

// P15.1: a log over a memory in which another one stood ahead of it has no entries.
func TestNewOverAnother(t *testing.T) {
	m := filled(t, 10)
	old := over(t, small, m, 1)
	old.fill(t)
	b := over(t, small, m, 1)
	b.like(t)
	b.add(t, 4, 1, api.OK)
}

// P15.5: whatever is done to a core's log, words outside of its blocks stay as they are, and other cores' logs of one memory have nothing to do with it.
func TestOwnBlocksAlone(t *testing.T) {
	for _, p := range plans {
		m := filled(t, p.c.Blocks)
		var logs []both
		for core := range p.c.Cores {
			logs = append(logs, over(t, p.c, m, core))
		}
		for core, b := range logs {
			was := blocksOf(t, m)
			b.want.blocks = slices.Clone(was)
			b.fill(t)
			b.pop(t, api.OK)
			b.add(t, 4, uint32(core), api.OK)
			now := blocksOf(t, m)
			for block := range now {
				own := block >= p.data+core*p.c.Logs && block < p.data+(core+1)*p.c.Logs
				if own != (now[block] != was[block]) {
					t.Error(p, core, block, now[block])
				}
			}
		}
		for core, b := range logs {
			b.want.blocks = blocksOf(t, m)
			b.like(t)
			b.clear(t)
			if core+1 < len(logs) {
				logs[core+1].want.blocks = blocksOf(t, m)
				logs[core+1].like(t)
			}
		}
	}
}

// P15.2, R3: a log stands in the memory that was handed in; copies of it, made ahead or behind, stay as they are.
func TestCopiesOfMemory(t *testing.T) {
	m := filled(t, 10)
	ahead := m.Copy()
	was := blocksOf(t, ahead)
	b := over(t, small, m, 1)
	b.fill(t)
	behind := m.Copy()
	b.clear(t)
	b.add(t, 4, 0x99, api.OK)
	if x, _ := behind.Word(9, 0); !slices.Equal(blocksOf(t, ahead), was) || x != 0 {
		t.Error("copies", x)
	}
	if x, _ := m.Word(9, 1); x != 0x99 {
		t.Error("memory", x)
	}
}

// mixed is a row of numbers that are as good as picked at random; the same ones each time.
func mixed(m uint32) func(below int) int {
	return func(below int) int {
		m = m*1664525 + 1013904223
		return int(m>>8) % below
	}
}

// do does one of four things to both.
func (b both) do(t *testing.T, what int, addr, old uint32) {
	t.Helper()
	n := len(b.want.entries)
	switch {
	case what == 0:
		b.add(t, addr+1, old, api.ErrAlign)
	case what == 1 && n == b.room:
		b.add(t, addr, old, api.ErrFull)
	case what == 1:
		b.add(t, addr, old, api.OK)
	case what == 2 && n == 0:
		b.pop(t, api.ErrNone)
	case what == 2:
		b.pop(t, api.OK)
	case what == 3:
		b.clear(t)
	}
}

// P15.1 to P15.3: each row of six calls, on logs that are empty, have one entry, or room for one more.
func TestRows(t *testing.T) {
	for _, n := range []int{0, 1, 7} {
		for row := range 4 * 4 * 4 * 4 * 4 * 4 {
			b := made(t, planOf(1, 2, 1), 0)
			for i := range n {
				b.add(t, uint32(4*i), uint32(i), api.OK)
			}
			for i := range 6 {
				b.do(t, row%4, uint32(4*i), uint32(row)+100)
				row /= 4
			}
			if t.Failed() {
				t.Fatal("row", n, row)
			}
		}
	}
}

// P15.1 to P15.3: longer runs, in which entries come and go.
func TestRuns(t *testing.T) {
	for i := range 26 {
		p, pick := plans[i%len(plans)], mixed(uint32(i))
		b := made(t, p.c, pick(p.c.Cores))
		for n := range 200 {
			what := min(pick(12), 8)
			if what > 3 {
				what = 1 + (n/50+what)%2
			}
			b.do(t, what, uint32(4*pick(16*p.data)), uint32(pick(1<<24))<<8)
		}
		if t.Failed() {
			t.Fatal("run", i)
		}
	}
}

// wordOf is a data word's place.
func wordOf(addr uint32) (block, word int) { return int(addr / 64), int(addr % 64 / 4) }

// write adds what is there to the log, and writes a data word; it tells whether there was room.
func write(t *testing.T, l *undo.Log, m *mem.Mem, addr, x uint32) bool {
	t.Helper()
	block, word := wordOf(addr)
	old, _ := m.Word(block, word)
	e := l.Add(addr, old)
	if e == api.OK && m.SetWord(block, word, x) == api.OK {
		return true
	}
	if e != api.ErrFull {
		t.Fatal("Add", addr, e)
	}
	return false
}

// back writes back what the log has, until it has no entry.
func back(t *testing.T, l *undo.Log, m *mem.Mem) {
	t.Helper()
	for l.Len() > 0 {
		addr, old, e := l.Last()
		if block, word := wordOf(addr); e != api.OK || m.SetWord(block, word, old) != api.OK || l.Pop() != api.OK {
			t.Fatal("Last, Pop", addr, old, e)
		}
	}
	if _, _, e := l.Last(); e != api.ErrNone || l.Pop() != api.ErrNone {
		t.Error("Last", e)
	}
}

// P15.4: whatever was written, words again and again, and all 0 among them: data is what it was when the log was empty.
func TestUndone(t *testing.T) {
	for i, p := range plans {
		for core := range min(p.c.Cores, 3) {
			pick, m := mixed(uint32(3*i+core)), filled(t, p.c.Blocks)
			l, _ := undo.New(p.c, m, core)
			for range 12 {
				was := blocksOf(t, m)[:p.data]
				many, span := pick(p.room+3), 1+pick(16*p.data)
				for n := range many {
					if write(t, l, m, uint32(4*pick(span)), uint32(pick(5))) != (n < p.room) {
						t.Error("room", p, n)
					}
				}
				back(t, l, m)
				if !slices.Equal(blocksOf(t, m)[:p.data], was) {
					t.Fatal("undone", p, core)
				}
				// What commits stays: the next ones start from it.
				for range pick(p.room + 1) {
					write(t, l, m, uint32(4*pick(span)), uint32(pick(1<<20)))
				}
				l.Clear()
			}
		}
	}
}

// P15.4: the logs of two cores of one memory, which write words apart: each takes its own back.
func TestUndoneApart(t *testing.T) {
	for turn := range 2 {
		m := filled(t, 10)
		was := blocksOf(t, m)
		var logs [2]*undo.Log
		for core := range logs {
			logs[core], _ = undo.New(small, m, core)
		}
		for n := range 8 {
			for core, l := range logs {
				write(t, l, m, uint32(256*core+64*(n%3)), uint32(n))
			}
		}
		back(t, logs[turn], m)
		for block := range 8 {
			now, _ := m.Block(block)
			if written := block/4 != turn && block%4 < 3; written != (now != was[block]) {
				t.Error(turn, block, now)
			}
		}
		back(t, logs[1-turn], m)
		if !slices.Equal(blocksOf(t, m)[:8], was[:8]) {
			t.Error("undone", turn)
		}
	}
}

// The fifth example of the whole: a log of one block has room for eight words; eight are put back.
func TestEightWords(t *testing.T) {
	m := filled(t, 10)
	was := blocksOf(t, m)[:8]
	l, _ := undo.New(small, m, 0)
	for n := range 12 {
		if write(t, l, m, uint32(4*n), 1) != (n < 8) {
			t.Error("room", n)
		}
	}
	back(t, l, m)
	if !slices.Equal(blocksOf(t, m)[:8], was) {
		t.Error("undone")
	}
}

// R5: the same calls answer the same, whatever was asked of others ahead of them.
func TestTheSameAgain(t *testing.T) {
	var l [2][]any
	for i := range l {
		b := made(t, planOf(2, 10, 2), 1)
		for n := range 20 {
			e := b.log.Add(uint32(8*n), uint32(n))
			addr, old, err := b.log.Last()
			l[i] = append(l[i], e, addr, old, err, b.log.Len(), b.log.Room())
		}
		made(t, small, 0).fill(t)
	}
	if !slices.Equal(l[0], l[1]) {
		t.Error(l[0], "not", l[1])
	}
}

// The chapter's table.
func TestExamples(t *testing.T) {
	m, _ := mem.New(10)
	l, e := undo.New(small, m, 1)
	if e != api.OK {
		t.Fatal("New", e)
	}
	if a, b, c := l.Add(68, 5), l.Add(70, 5), l.Add(512, 5); a != api.OK || b != api.ErrAlign || c != api.ErrLog || l.Room() != 7 {
		t.Error("Add, Room", a, b, c, l.Room())
	}
	a, _ := m.Word(9, 0)
	if b, _ := m.Word(9, 1); a != 68 || b != 5 {
		t.Error("memory", a, b)
	}
	if addr, old, e := l.Last(); addr != 68 || old != 5 || e != api.OK {
		t.Error("Last", addr, old, e)
	}
	if a, b := l.Pop(), l.Pop(); a != api.OK || b != api.ErrNone {
		t.Error("Pop", a, b)
	}
	if addr, old, e := l.Last(); addr != 0 || old != 0 || e != api.ErrNone {
		t.Error("Last", addr, old, e)
	}
}
