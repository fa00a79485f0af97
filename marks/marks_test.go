package marks_test

import (
	"maps"
	"math"
	"slices"
	"testing"

	"undertow/api"
	"undertow/marks"
)

// huge are numbers far from all that a plan has, and such as are like small ones if upper bits were dropped.
var huge = []int{
	math.MinInt, math.MinInt + 1, math.MinInt32, math.MaxInt, math.MaxInt - 1, math.MaxInt32, math.MaxUint32,
	1 << 8, 1<<8 + 1, 1<<8 + 3, 1 << 16, 1<<16 + 1, 1 << 32, 1<<32 + 1, 1<<32 + 3, 1<<32 - 1, 1 << 62, 1<<62 + 1,
	-1 << 8, 1 - 1<<8, 3 - 1<<8, -1 << 16, 1 - 1<<16, -1 << 32, 1 - 1<<32, 3 - 1<<32, -1 << 62, -1<<62 - 1,
}

// planOf is a plan of so many cores, blocks, and blocks of a log.
func planOf(cores, blocks, logs int) api.Config {
	return api.Config{Cores: cores, Sets: 1, Ways: 1, Blocks: blocks, Logs: logs, Backs: 1, Nest: 1}
}

// plans are some that may be, with how many data blocks each has.
var plans = []struct {
	c    api.Config
	data int
}{
	{planOf(1, 2, 1), 1},
	{planOf(1, 3, 1), 2},
	{planOf(1, 20, 1), 19},
	{planOf(2, 10, 1), 8},
	{planOf(2, 10, 4), 2},
	{planOf(3, 20, 2), 14},
	{planOf(16, 17, 1), 1},
	{planOf(16, 65, 4), 1},
	{planOf(1, 256, 1), 255},
	{planOf(16, 256, 4), 192},
	{api.Config{Cores: 16, Sets: 16, Ways: 4, Blocks: 256, Logs: 1, Backs: 4, Nest: 8, Tries: 8}, 240},
	{api.Config{Cores: 2, Sets: 8, Ways: 2, Blocks: 12, Logs: 1, Backs: 3, Nest: 2, Tries: 1}, 10},
}

// mark is what there is to be known of a block.
type mark struct{ read, wrote bool }

// both are marks, and what the chapter says of them: what each data block is marked as.
type both struct {
	marks *marks.Marks
	want  []mark
}

func made(t *testing.T, c api.Config) both {
	t.Helper()
	k, e := marks.New(c)
	if k == nil || e != api.OK {
		t.Fatal("New", c, k, e)
	}
	return both{k, make([]mark, c.Blocks-c.Cores*c.Logs)}
}

func (b both) copied() both { return both{b.marks.Copy(), slices.Clone(b.want)} }

// read, write and clear do the same to both.
func (b both) read(t *testing.T, block int) {
	t.Helper()
	if e := b.marks.Read(block); e != api.OK {
		t.Error("Read", block, e)
	}
	b.want[block].read = true
}

func (b both) write(t *testing.T, block int) {
	t.Helper()
	if e := b.marks.Write(block); e != api.OK {
		t.Error("Write", block, e)
	}
	b.want[block].wrote = true
}

func (b both) clear() {
	b.marks.Clear()
	clear(b.want)
}

// give lets a block that is not marked be marked as m.
func (b both) give(t *testing.T, block int, m mark) {
	t.Helper()
	if m.read {
		b.read(t, block)
	}
	if m.wrote {
		b.write(t, block)
	}
}

// all are the blocks that are marked, rising.
func (b both) all() []int {
	var l []int
	for block, m := range b.want {
		if m != (mark{}) {
			l = append(l, block)
		}
	}
	return l
}

// like tells whether all that is to be seen of the marks is what it should be; that they are asked changes nothing.
func (b both) like(t *testing.T) {
	t.Helper()
	for range 2 {
		if l, want := b.marks.All(), b.all(); !slices.Equal(l, want) {
			t.Error("All", l, "not", want)
		}
		for block, m := range b.want {
			b.is(t, block, m)
		}
		b.is(t, -1, mark{})
		b.is(t, len(b.want), mark{})
	}
}

// is tells whether a block is marked as m alone.
func (b both) is(t *testing.T, block int, m mark) {
	t.Helper()
	if read, wrote := b.marks.Has(block); read != m.read || wrote != m.wrote {
		t.Error("Has", block, read, wrote, "not", m)
	}
	if b.marks.Meets(api.NtDown, block) != m.wrote {
		t.Error("Meets Down", block, "not", m)
	}
	if b.marks.Meets(api.NtInv, block) != (m.read || m.wrote) {
		t.Error("Meets Inv", block, "not", m)
	}
}

// noData are numbers that are no data block of a plan, some of them blocks of its logs.
func noData(data int) []int {
	l := append([]int{-1, -2, -data, -data - 1, -255, -256}, huge...)
	for block := data; block < 260; block++ {
		l = append(l, block)
	}
	return l
}

func TestNumbersOfTheDocument(t *testing.T) {
	if api.OK != 0 || api.ErrNil != 1 || api.ErrArg != 2 || api.NtDown != 4 || api.NtInv != 5 {
		t.Error(api.OK, api.ErrNil, api.ErrArg, api.NtDown, api.NtInv)
	}
}

// fieldOf is a field of a plan, in their order.
func fieldOf(c *api.Config, i int) *int {
	return []*int{&c.Cores, &c.Sets, &c.Ways, &c.Blocks, &c.Logs, &c.Backs, &c.Nest, &c.Tries}[i]
}

// P13.1: of plans that may be, also where a field is at its bound, nothing is marked.
func TestNew(t *testing.T) {
	for _, p := range plans {
		b := made(t, p.c)
		if len(b.want) != p.data {
			t.Fatal(p, len(b.want))
		}
		b.like(t)
	}
	good := [][]int{{1, 2, 15, 16}, {1, 2, 4, 8, 16}, {1, 2, 4}, {2, 3, 255, 256}, {1, 2, 3, 4}, {1, 2, 3, 4}, {1, 2, 7, 8}, {0, 1, 7, 8}}
	for i, numbers := range good {
		for _, x := range numbers {
			c := planOf(1, 200, 1)
			*fieldOf(&c, i) = x
			made(t, c).like(t)
		}
	}
}

// P13.1, R2: of plans that may not be - a field just past a bound, or huge; no data block - there are none.
func TestNewOfWrong(t *testing.T) {
	wrong := [][]int{
		{-1, 0, 17, 18}, {-1, 0, 3, 5, 6, 12, 17, 32}, {-1, 0, 3, 5, 8}, {-1, 0, 1, 2, 257},
		{-1, 0, 5}, {-1, 0, 5}, {-1, 0, 9}, {-1, 9},
	}
	l := []api.Config{{}, planOf(2, 2, 1), planOf(1, 4, 4), planOf(16, 64, 4), planOf(16, 63, 4)}
	for i, numbers := range wrong {
		for _, x := range slices.Concat(numbers, huge) {
			c := planOf(2, 10, 1)
			if *fieldOf(&c, i) = x; i != 3 || x < 3 || x > 256 {
				l = append(l, c)
			}
		}
	}
	for _, c := range l {
		if k, e := marks.New(c); k != nil || e != api.ErrArg {
			t.Error("New", c, k, e)
		}
	}
}

// P13.1: those of one plan, made twice, have nothing to do with one another.
func TestNewIsAnother(t *testing.T) {
	a, b := made(t, planOf(2, 10, 1)), made(t, planOf(2, 10, 1))
	a.read(t, 3)
	a.write(t, 5)
	b.like(t)
	b.write(t, 3)
	a.like(t)
	b.clear()
	a.like(t)
	made(t, planOf(2, 10, 1)).like(t)
}

// R4: of none.
func TestNil(t *testing.T) {
	var k *marks.Marks
	for _, block := range append(noData(0), 0, 1, 7) {
		if a, b := k.Read(block), k.Write(block); a != api.ErrNil || b != api.ErrNil {
			t.Error("Read, Write", block, a, b)
		}
		if read, wrote := k.Has(block); read || wrote {
			t.Error("Has", block, read, wrote)
		}
		for kind := range 256 {
			if k.Meets(uint8(kind), block) {
				t.Error("Meets", kind, block)
			}
		}
	}
	k.Clear()
	if k.All() != nil || k.Copy() != nil {
		t.Error(k.All(), k.Copy())
	}
}

// P13.1, P13.2: each data block of a plan may be read, or written, or both, in either order; no other one is marked by that.
func TestReadWrite(t *testing.T) {
	for _, p := range plans {
		for block := range p.data {
			if block > 3 && block < p.data-3 && block%37 != 0 {
				continue
			}
			b := made(t, p.c)
			b.read(t, block)
			b.like(t)
			b.write(t, block)
			b.like(t)
			b = made(t, p.c)
			b.write(t, block)
			b.like(t)
			b.read(t, block)
			b.like(t)
		}
	}
}

// P13.1: what is marked as something already stays so.
func TestAgain(t *testing.T) {
	for _, m := range []mark{{true, false}, {false, true}, {true, true}} {
		b := made(t, planOf(2, 10, 1))
		for range 5 {
			b.give(t, 2, m)
			b.give(t, 7, m)
			b.like(t)
		}
	}
}

// P13.1, R2: what is no data block is not marked, and nothing changes.
func TestOfNoData(t *testing.T) {
	for _, p := range plans {
		b := made(t, p.c)
		for range 2 {
			for _, block := range noData(p.data) {
				if x, y := b.marks.Read(block), b.marks.Write(block); x != api.ErrArg || y != api.ErrArg {
					t.Error("Read, Write", p, block, x, y)
				}
				b.is(t, block, mark{})
			}
			b.like(t)
			for block := range p.data {
				b.give(t, block, mark{true, true})
			}
		}
	}
}

// kinds are all that a block may be marked as.
var kinds = []mark{{}, {true, false}, {false, true}, {true, true}}

// P13.2: of all numbers of kinds, only NtDown and NtInv meet anything: a block that was written; one that was read or written.
func TestMeets(t *testing.T) {
	b := made(t, planOf(1, 5, 1))
	for block, m := range kinds {
		b.give(t, block, m)
	}
	b.like(t)
	want := map[int][4]bool{4: {false, false, true, true}, 5: {false, true, true, true}}
	for kind := range 256 {
		for block := range kinds {
			if is := b.marks.Meets(uint8(kind), block); is != want[kind][block] {
				t.Error("Meets", kind, block, is)
			}
		}
		for _, block := range noData(4) {
			if b.marks.Meets(uint8(kind), block) {
				t.Error("Meets", kind, block)
			}
		}
	}
}

// P13.2: once they are cleared nothing is marked, whatever was; they go on like new ones.
func TestClear(t *testing.T) {
	for _, p := range plans {
		b := made(t, p.c)
		b.clear()
		b.like(t)
		for i := range 5 {
			for block := i; block < p.data; block += i + 1 {
				b.give(t, block, kinds[(block+i)%4])
			}
			b.like(t)
			b.clear()
			b.like(t)
			b.clear()
			b.like(t)
			if e := b.marks.Read(p.data); e != api.ErrArg {
				t.Error("Read", p, e)
			}
		}
	}
}

// P13.2: the blocks are rising, each once, in whatever order they were marked, and however.
func TestAll(t *testing.T) {
	for _, step := range []int{1, 254, 2, 7, 11, 64, 101, 202} {
		b := made(t, planOf(1, 256, 1))
		for n := range 255 {
			block := n * step % 255
			b.give(t, block, kinds[1+(n+block)%3])
			if n%16 == 0 || n > 250 {
				b.like(t)
			}
		}
		if l := b.marks.All(); len(l) != 255 || l[0] != 0 || l[254] != 254 {
			t.Error("All", step, l)
		}
	}
}

// R3: a list that was answered stays as it is, whatever is done to the marks later; and no two lists are one.
func TestAllIsApart(t *testing.T) {
	b := made(t, planOf(2, 10, 1))
	for _, block := range []int{6, 2, 4} {
		b.read(t, block)
	}
	l := b.marks.All()
	b.read(t, 3)
	b.write(t, 0)
	b.marks.All()[0] = 7
	b.like(t)
	b.clear()
	if !slices.Equal(l, []int{2, 4, 6}) {
		t.Error("All", l)
	}
	l[0] = 5
	b.like(t)
}

// changes are what may be done to marks of 8 blocks.
var changes = []func(t *testing.T, b both){
	func(t *testing.T, b both) { b.read(t, 0) },
	func(t *testing.T, b both) { b.write(t, 0) },
	func(t *testing.T, b both) { b.read(t, 2) },
	func(t *testing.T, b both) { b.write(t, 1) },
	func(t *testing.T, b both) { b.read(t, 7) },
	func(t *testing.T, b both) { b.clear() },
	func(t *testing.T, b both) {
		b.clear()
		b.write(t, 6)
	},
}

// P13.2: a copy is the same, and goes on apart from what it was made of, whichever is changed, and however.
func TestCopy(t *testing.T) {
	for i, change := range changes {
		for _, other := range changes {
			b := made(t, planOf(2, 10, 1))
			for block, m := range kinds {
				b.give(t, block, m)
			}
			q := b.copied()
			if q.marks == nil || q.marks == b.marks {
				t.Fatal("Copy", q.marks)
			}
			q.like(t)
			change(t, b)
			b.like(t)
			q.like(t)
			other(t, q)
			b.like(t)
			q.like(t)
			if t.Failed() {
				t.Fatal("change", i)
			}
		}
	}
}

// P13.2: a copy, of marks or of a copy, has the same data blocks, also where nothing is marked.
func TestCopyOfPlans(t *testing.T) {
	for _, p := range plans {
		b := made(t, p.c)
		for range 3 {
			b = b.copied()
			b.like(t)
			for _, block := range noData(p.data) {
				if x, y := b.marks.Read(block), b.marks.Write(block); x != api.ErrArg || y != api.ErrArg {
					t.Error("Read, Write", p, block, x, y)
				}
			}
			b.write(t, 0)
			b.read(t, p.data-1)
			b.like(t)
			if p.data%2 == 0 {
				b.clear()
			}
		}
	}
}

// do does one of 9 things to both, of 4 blocks.
func (b both) do(t *testing.T, what int) {
	t.Helper()
	switch {
	case what < 4:
		b.read(t, what)
	case what < 8:
		b.write(t, what-4)
	default:
		b.clear()
	}
}

// P13.1, P13.2: each row of four calls.
func TestRows(t *testing.T) {
	for row := range 9 * 9 * 9 * 9 {
		b := made(t, planOf(1, 5, 1))
		for range 4 {
			b.do(t, row%9)
			b.like(t)
			row /= 9
		}
	}
}

// mixed is a row of numbers that are as good as picked at random; the same ones each time.
func mixed(m uint32) func(below int) int {
	return func(below int) int {
		m = m*1664525 + 1013904223
		return int(m>>8) % below
	}
}

// P13.1, P13.2: whatever is done, to marks and to copies of them, they are as they should be.
func TestRuns(t *testing.T) {
	for i := range 30 {
		pick := mixed(uint32(i))
		l := []both{made(t, planOf(1, 5, 1))}
		for n := range 400 {
			j := pick(len(l))
			l[j].do(t, pick(9))
			if n%100 == 99 {
				l = append(l, l[j].copied())
			}
			for _, b := range l {
				b.like(t)
			}
			if t.Failed() {
				t.Fatal("run", i, n)
			}
		}
	}
}

// met is what is met, by kind and block, of 8 blocks and some that there are not.
func met(k *marks.Marks) map[[2]int]bool {
	m := map[[2]int]bool{}
	for kind := range 12 {
		for block := -1; block < 10; block++ {
			if k.Meets(uint8(kind), block) {
				m[[2]int{kind, block}] = true
			}
		}
	}
	return m
}

// P13.3: what meets marks meets more marks; nothing meets what is not marked; what NtDown meets NtInv meets.
func TestMeetsMore(t *testing.T) {
	for i := range 40 {
		pick, k := mixed(uint32(i)), made(t, planOf(2, 10, 1)).marks
		if len(met(k)) != 0 {
			t.Fatal("met", met(k))
		}
		was := met(k)
		for n := range 30 {
			if block := pick(8); pick(2) == 0 {
				k.Read(block)
			} else {
				k.Write(block)
			}
			now := met(k)
			for of := range was {
				if !now[of] {
					t.Error("Meets", i, n, of)
				}
			}
			for of := range now {
				if !slices.Contains(k.All(), of[1]) || !now[[2]int{5, of[1]}] {
					t.Error("Meets", i, n, of)
				}
			}
			was = now
		}
		if k.Clear(); len(met(k)) != 0 {
			t.Error("met", met(k))
		}
	}
}

// R5: the same calls answer the same, whatever was asked of others.
func TestTheSameAgain(t *testing.T) {
	a, b := made(t, planOf(2, 10, 1)), made(t, planOf(2, 10, 1))
	for _, change := range changes {
		change(t, a)
		change(t, b)
		if x, y := a.marks.All(), b.marks.All(); !slices.Equal(x, y) || !maps.Equal(met(a.marks), met(b.marks)) {
			t.Error(x, y)
		}
	}
}

// The chapter's table.
func TestExamples(t *testing.T) {
	k := made(t, planOf(2, 10, 1)).marks
	if a, b, l := k.Read(3), k.Write(5), k.All(); a != api.OK || b != api.OK || !slices.Equal(l, []int{3, 5}) {
		t.Error("Read, Write, All", a, b, l)
	}
	asked := []struct {
		kind  uint8
		block int
		want  bool
	}{
		{api.NtDown, 3, false},
		{api.NtInv, 3, true},
		{api.NtDown, 5, true},
		{api.NtAck, 5, false},
	}
	for _, x := range asked {
		if is := k.Meets(x.kind, x.block); is != x.want {
			t.Error("Meets", x, is)
		}
	}
}
