package backs_test

import (
	"maps"
	"math"
	"slices"
	"testing"

	"undertow/api"
	"undertow/backs"
)

// huge are numbers far from all that a plan has, and such as are like small ones if upper bits were dropped.
var huge = []int{
	math.MinInt, math.MinInt + 1, math.MinInt32, math.MaxInt, math.MaxInt - 1, math.MaxInt32, math.MaxUint32,
	1 << 8, 1<<8 + 1, 1<<8 + 3, 1 << 16, 1<<16 + 1, 1 << 32, 1<<32 + 1, 1<<32 + 3, 1<<32 - 1, 1 << 62, 1<<62 + 1,
	-1 << 8, 1 - 1<<8, 3 - 1<<8, -1 << 16, 1 - 1<<16, -1 << 32, 1 - 1<<32, 3 - 1<<32, -1 << 62, -1<<62 - 1,
}

// small is the plan of the chapter's examples.
var small = api.Config{Cores: 2, Sets: 2, Ways: 2, Blocks: 10, Logs: 1, Backs: 1, Nest: 1}

// planOf is a plan of so many cores, blocks, blocks of a log, and backs.
func planOf(cores, blocks, logs, most int) api.Config {
	return api.Config{Cores: cores, Sets: 1, Ways: 1, Blocks: blocks, Logs: logs, Backs: most, Nest: 1}
}

// plans are some that may be, with how many data blocks each has.
var plans = []struct {
	c    api.Config
	data int
}{
	{small, 8},
	{planOf(1, 2, 1, 1), 1},
	{planOf(1, 3, 1, 4), 2},
	{planOf(1, 256, 1, 2), 255},
	{planOf(1, 256, 4, 3), 252},
	{planOf(2, 10, 4, 4), 2},
	{planOf(3, 20, 2, 3), 14},
	{planOf(4, 40, 3, 2), 28},
	{planOf(16, 17, 1, 4), 1},
	{planOf(16, 65, 4, 1), 1},
	{planOf(16, 256, 4, 4), 192},
	{api.Config{Cores: 16, Sets: 16, Ways: 4, Blocks: 256, Logs: 1, Backs: 4, Nest: 8, Tries: 8}, 240},
	{api.Config{Cores: 2, Sets: 8, Ways: 1, Blocks: 12, Logs: 1, Backs: 3, Nest: 2, Tries: 1}, 10},
}

// data is a block's of which no two are alike: neither of two n nor of two words; no word of it is 0.
func data(n int) api.Block {
	var d api.Block
	for w := range d {
		d[w] = 0x80000001 + uint32(n)<<8 + uint32(w)<<2
	}
	return d
}

// back is what is to be known of a block that is there.
type back struct {
	data api.Block
	live bool
}

// model is what the chapter says of backs: the blocks that are there.
type model struct {
	blocks, most int
	there        map[int]back
}

func (m *model) copied() *model {
	return &model{blocks: m.blocks, most: m.most, there: maps.Clone(m.there)}
}

func (m *model) put(block int, d api.Block) api.Errno {
	_, is := m.there[block]
	switch {
	case block < 0 || block > m.blocks-1:
		return api.ErrArg
	case is:
		return api.ErrState
	case len(m.there) == m.most:
		return api.ErrFull
	}
	m.there[block] = back{d, true}
	return api.OK
}

func (m *model) kill(block int) bool {
	b, is := m.there[block]
	if is {
		m.there[block] = back{b.data, false}
	}
	return is && b.live
}

func (m *model) drop(block int) bool {
	_, is := m.there[block]
	delete(m.there, block)
	return is
}

// both are backs, and their model.
type both struct {
	backs *backs.Backs
	model *model
}

func made(t *testing.T, c api.Config) both {
	t.Helper()
	k, e := backs.New(c)
	if k == nil || e != api.OK {
		t.Fatal("New", c, k, e)
	}
	return both{k, &model{c.Blocks - c.Cores*c.Logs, c.Backs, map[int]back{}}}
}

// filled has as many blocks as there is room for, from 0 on, each with data of its number.
func filled(t *testing.T, most int) both {
	t.Helper()
	b := made(t, planOf(2, 20, 1, most))
	for block := range most {
		b.put(t, block, data(block), api.OK)
	}
	return b
}

func (b both) copied() both { return both{b.backs.Copy(), b.model.copied()} }

// put, kill and drop do the same to both, and tell what was to be answered.
func (b both) put(t *testing.T, block int, d api.Block, want api.Errno) {
	t.Helper()
	if m, e := b.model.put(block, d), b.backs.Put(block, d); m != want || e != want {
		t.Error("Put", block, e, "the model's", m, "not", want)
	}
	b.like(t)
}

func (b both) kill(t *testing.T, block int, want bool) {
	t.Helper()
	if m, is := b.model.kill(block), b.backs.Kill(block); m != want || is != want {
		t.Error("Kill", block, is, "the model's", m, "not", want)
	}
	b.like(t)
}

func (b both) drop(t *testing.T, block int, want bool) {
	t.Helper()
	if m, is := b.model.drop(block), b.backs.Drop(block); m != want || is != want {
		t.Error("Drop", block, is, "the model's", m, "not", want)
	}
	b.like(t)
}

// like tells whether all that is to be seen of the backs is what the model says; that they are asked changes nothing.
func (b both) like(t *testing.T) {
	t.Helper()
	for range 2 {
		if n, want := b.backs.Len(), len(b.model.there); n != want {
			t.Error("Len", n, "not", want)
		}
		if n, want := b.backs.Room(), b.model.most-len(b.model.there); n != want {
			t.Error("Room", n, "not", want)
		}
		for block := -2; block < b.model.blocks+2; block++ {
			b.finds(t, block)
		}
	}
}

func (b both) finds(t *testing.T, block int) {
	t.Helper()
	want, there := b.model.there[block]
	if d, live, is := b.backs.Find(block); d != want.data || live != want.live || is != there {
		t.Error("Find", block, d, live, is, "not", want, there)
	}
}

// noData are numbers that are no data block of a plan, some of them blocks of its logs.
func noData(data int) []int {
	l := append([]int{-1, -2, -data - 1, -255, -256}, huge...)
	for block := data; block < 260; block++ {
		l = append(l, block)
	}
	return l
}

func TestNumbersOfTheDocument(t *testing.T) {
	if api.OK != 0 || api.ErrNil != 1 || api.ErrArg != 2 || api.ErrFull != 7 || api.ErrState != 8 {
		t.Error(api.OK, api.ErrNil, api.ErrArg, api.ErrFull, api.ErrState)
	}
	if api.MaxBacks != 4 || api.MaxBlocks != 256 || len(api.Block{}) != 16 {
		t.Error(api.MaxBacks, api.MaxBlocks, len(api.Block{}))
	}
}

// fieldOf is a field of a plan, in their order.
func fieldOf(c *api.Config, i int) *int {
	return []*int{&c.Cores, &c.Sets, &c.Ways, &c.Blocks, &c.Logs, &c.Backs, &c.Nest, &c.Tries}[i]
}

// P12.1: of plans that may be, also where a field is at its bound, there are backs, none yet.
func TestNew(t *testing.T) {
	for _, p := range plans {
		b := made(t, p.c)
		if b.model.blocks != p.data {
			t.Fatal(p, b.model.blocks)
		}
		b.like(t)
	}
	great := planOf(1, 200, 1, 1)
	good := [][]int{{1, 2, 15, 16}, {1, 2, 4, 8, 16}, {1, 2, 4}, {2, 3, 255, 256}, {1, 2, 3, 4}, {1, 2, 3, 4}, {1, 2, 7, 8}, {0, 1, 7, 8}}
	for i, numbers := range good {
		for _, x := range numbers {
			c := great
			*fieldOf(&c, i) = x
			made(t, c).like(t)
		}
	}
}

// badPlans are such as may not be: each field just past a bound, and huge; and no data block.
func badPlans() []api.Config {
	wrong := [][]int{
		{-1, 0, 17, 18}, {-1, 0, 3, 5, 6, 12, 17, 32}, {-1, 0, 3, 5, 8}, {-1, 0, 1, 2, 257},
		{-1, 0, 5}, {-1, 0, 5}, {-1, 0, 9}, {-1, 9},
	}
	l := []api.Config{
		{}, planOf(2, 2, 1, 1), planOf(2, 1, 1, 1), planOf(1, 4, 4, 1), planOf(16, 64, 4, 4), planOf(16, 63, 4, 4),
	}
	for i, numbers := range wrong {
		for _, x := range slices.Concat(numbers, huge) {
			c := small
			if *fieldOf(&c, i) = x; i != 3 || x < 3 || x > 256 {
				l = append(l, c)
			}
		}
	}
	return l
}

// P12.1, R2: of plans that may not be there are none.
func TestNewOfWrong(t *testing.T) {
	for _, c := range badPlans() {
		if k, e := backs.New(c); k != nil || e != api.ErrArg {
			t.Error("New", c, k, e)
		}
	}
}

// P12.1: those of one plan, made twice, have nothing to do with one another.
func TestNewIsAnother(t *testing.T) {
	a, b := made(t, small), made(t, small)
	a.put(t, 3, data(1), api.OK)
	b.like(t)
	b.put(t, 3, data(2), api.OK)
	a.kill(t, 3, true)
	b.like(t)
	b.drop(t, 3, true)
	a.like(t)
	made(t, small).like(t)
}

// R4: of none.
func TestNil(t *testing.T) {
	var k *backs.Backs
	for _, block := range append(noData(0), 0, 1, 7) {
		if e := k.Put(block, data(1)); e != api.ErrNil {
			t.Error("Put", block, e)
		}
		if d, live, is := k.Find(block); d != (api.Block{}) || live || is {
			t.Error("Find", block, d, live, is)
		}
		if k.Kill(block) || k.Drop(block) {
			t.Error("Kill, Drop", block)
		}
	}
	if k.Len() != 0 || k.Room() != 0 || k.Copy() != nil {
		t.Error(k.Len(), k.Room(), k.Copy())
	}
}

// P12.1: each data block of a plan may be there, with whatever data, and is live.
func TestPut(t *testing.T) {
	for _, p := range plans {
		b := made(t, p.c)
		for block := range p.data {
			if e := b.backs.Put(block, data(block)); e != api.OK {
				t.Fatal("Put", p, block, e)
			}
			if d, live, is := b.backs.Find(block); d != data(block) || !live || !is {
				t.Fatal("Find", p, block, d, live, is)
			}
			if n, room := b.backs.Len(), b.backs.Room(); n != 1 || room != p.c.Backs-1 || !b.backs.Drop(block) {
				t.Fatal("Len, Room, Drop", p, block, n, room)
			}
		}
		b.put(t, 0, data(300), api.OK)
		b.drop(t, 0, true)
		b.put(t, p.data-1, data(301), api.OK)
	}
}

// P12.1: data is kept whole, whichever of its words are 0.
func TestPutWhole(t *testing.T) {
	b := made(t, small)
	shapes := []api.Block{{}, data(1), {0: 1}, {15: 1}, {0: math.MaxUint32, 15: 1 << 31}}
	for w := range 16 {
		var d api.Block
		d[w] = math.MaxUint32 - uint32(w)
		shapes = append(shapes, d)
	}
	for i, d := range shapes {
		b.put(t, i%8, d, api.OK)
		b.kill(t, i%8, true)
		b.drop(t, i%8, true)
	}
}

// P12.1, R2: what is no data block is told ahead of what has no room; nothing changes.
func TestPutOfNoData(t *testing.T) {
	for _, p := range plans {
		b := made(t, p.c)
		for n := range min(p.c.Backs, p.data) + 1 {
			for _, block := range noData(p.data) {
				if e := b.backs.Put(block, data(1)); e != api.ErrArg {
					t.Error("Put", p, block, e)
				}
			}
			b.like(t)
			if n < p.data && n < p.c.Backs {
				b.put(t, n, data(n), api.OK)
			}
		}
		if b.backs.Len() != min(p.c.Backs, p.data) {
			t.Error("Len", p, b.backs.Len())
		}
	}
}

// P12.1, R2: a block that is there, live or dead, is told ahead of what has no room; it has the data that it had.
func TestPutOfOneThatIsThere(t *testing.T) {
	for most := 1; most <= 4; most++ {
		b := made(t, planOf(2, 20, 1, most))
		for n := range most {
			b.put(t, 5*n, data(n), api.OK)
			for there := range n + 1 {
				b.put(t, 5*there, data(100), api.ErrState)
				b.put(t, 5*there, data(there), api.ErrState)
			}
			b.kill(t, 5*n, true)
			for there := range n + 1 {
				b.put(t, 5*there, data(200), api.ErrState)
				b.put(t, 5*there, api.Block{}, api.ErrState)
			}
		}
	}
}

// P12.1: one more where there is room for one; and one more where there is none, of whatever block that is not there.
func TestPutFull(t *testing.T) {
	for most := 1; most <= 4; most++ {
		b := filled(t, most)
		for block := most; block < 18; block++ {
			b.put(t, block, data(block), api.ErrFull)
		}
		for gone := range most {
			b.kill(t, gone, true)
			b.put(t, 17, data(17), api.ErrFull)
			b.drop(t, gone, true)
			b.put(t, 10+gone, data(10+gone), api.OK)
			b.put(t, gone, data(gone), api.ErrFull)
			b.put(t, 17, data(17), api.ErrFull)
		}
	}
}

// P12.1, P12.4: a block that was dropped, live or dead, may be there again, with other data, and is live.
func TestPutOfDropped(t *testing.T) {
	for most := 1; most <= 4; most++ {
		for block := range most {
			b := filled(t, most)
			b.drop(t, block, true)
			b.put(t, block, data(50), api.OK)
			b.kill(t, block, true)
			b.drop(t, block, true)
			b.put(t, block, data(60), api.OK)
			b.kill(t, block, true)
			b.drop(t, block, true)
			b.put(t, block, api.Block{}, api.OK)
			b.put(t, block, data(70), api.ErrState)
		}
	}
}

// P12.2: what is not there, was dropped, or is no block, is not found, killed or dropped.
func TestWhatIsNotThere(t *testing.T) {
	for most := 1; most <= 4; most++ {
		full := filled(t, most)
		others := noData(18)
		for block := most; block < 18; block++ {
			others = append(others, block)
		}
		dead := full.copied()
		dead.kill(t, 0, true)
		empty := full.copied()
		for block := range most {
			empty.drop(t, block, true)
		}
		for _, b := range []both{made(t, small), full, dead, empty} {
			for _, block := range others {
				b.finds(t, block)
				if b.backs.Kill(block) || b.backs.Drop(block) {
					t.Error("Kill, Drop", block)
				}
			}
			b.like(t)
		}
		for block := range most {
			empty.kill(t, block, false)
			empty.drop(t, block, false)
		}
	}
}

// P12.2: one that is killed is dead, and has its data still; killed again, it was not live.
func TestKill(t *testing.T) {
	for most := 1; most <= 4; most++ {
		for block := range most {
			b := filled(t, most)
			b.kill(t, block, true)
			b.kill(t, block, false)
			b.kill(t, block, false)
			if d, live, is := b.backs.Find(block); d != data(block) || live || !is {
				t.Error("Find", block, d, live, is)
			}
			b.drop(t, block, true)
			b.kill(t, block, false)
		}
	}
}

// P12.2: one that is dropped, live or dead, is there no more; dropped again, it was not there.
func TestDrop(t *testing.T) {
	for most := 1; most <= 4; most++ {
		for block := range most {
			for _, dead := range []bool{false, true} {
				b := filled(t, most)
				if dead {
					b.kill(t, block, true)
				}
				b.drop(t, block, true)
				b.drop(t, block, false)
				b.kill(t, block, false)
				b.drop(t, block, false)
				if d, live, is := b.backs.Find(block); d != (api.Block{}) || live || is {
					t.Error("Find", block, d, live, is)
				}
			}
		}
	}
}

// orders are all orders of the numbers from 0 to n-1.
func orders(n int) [][]int {
	l := [][]int{{}}
	for range n {
		var longer [][]int
		for _, o := range l {
			for x := range n {
				if !slices.Contains(o, x) {
					longer = append(longer, append(slices.Clone(o), x))
				}
			}
		}
		l = longer
	}
	return l
}

// P12.2, P12.3: in whatever order they are killed, and dropped, those that are left are found as before.
func TestOrders(t *testing.T) {
	for most := 1; most <= 4; most++ {
		for dead := range 1 << most {
			for i, order := range orders(most) {
				b := filled(t, most)
				kills := orders(most)[(7*i+dead)%len(orders(most))]
				for _, block := range kills {
					if dead>>block&1 == 1 {
						b.kill(t, block, true)
					}
				}
				for _, block := range order {
					b.drop(t, block, true)
				}
			}
		}
	}
}

// changes are what may be done to backs of which 0, 1 and 2 are there, with room for one more.
var changes = []func(k *backs.Backs){
	func(k *backs.Backs) { k.Put(3, data(33)) },
	func(k *backs.Backs) { k.Kill(0) },
	func(k *backs.Backs) { k.Kill(1) },
	func(k *backs.Backs) { k.Kill(2) },
	func(k *backs.Backs) { k.Drop(0) },
	func(k *backs.Backs) { k.Drop(1) },
	func(k *backs.Backs) { k.Drop(2) },
	func(k *backs.Backs) {
		k.Drop(1)
		k.Put(1, data(11))
	},
	func(k *backs.Backs) {
		k.Drop(2)
		k.Put(5, data(5))
		k.Put(6, data(6))
	},
}

// seen is all that there is to be seen of backs.
func seen(k *backs.Backs) []any {
	l := []any{k.Len(), k.Room()}
	for block := range 20 {
		d, live, is := k.Find(block)
		l = append(l, d, live, is)
	}
	return l
}

// P12.3: a copy and what it was made of go on apart, whichever is changed, and however.
func TestCopyGoesOnApart(t *testing.T) {
	for i, change := range changes {
		for j, other := range changes {
			for turned := range 2 {
				b := made(t, planOf(2, 20, 1, 4))
				for block := range 3 {
					b.put(t, block, data(block), api.OK)
				}
				k, q := b.backs, b.backs.Copy()
				if turned == 1 {
					k, q = q, k
				}
				was := seen(q)
				change(k)
				if now := seen(q); !slices.Equal(now, was) {
					t.Error("change", i, turned, now, "not", was)
				}
				was = seen(k)
				other(q)
				if now := seen(k); !slices.Equal(now, was) {
					t.Error("changes", i, j, turned, now, "not", was)
				}
			}
		}
	}
}

// P12.3: a copy is the same: what is there, live or dead, how much room there is, and which blocks may be.
func TestCopy(t *testing.T) {
	for _, p := range plans {
		b := made(t, p.c)
		for n := range min(p.c.Backs, p.data) + 1 {
			q := b.copied()
			if q.backs == nil || q.backs == b.backs {
				t.Fatal("Copy", p, q)
			}
			q.like(t)
			q.put(t, p.data, data(1), api.ErrArg)
			q.put(t, -1, data(1), api.ErrArg)
			for block := range min(p.c.Backs, p.data) {
				q.drop(t, block, block < n)
			}
			for block := range min(p.c.Backs, p.data) {
				q.put(t, block, data(90+block), api.OK)
			}
			b.like(t)
			if n < p.c.Backs && n < p.data {
				b.put(t, n, data(n), api.OK)
				if n%2 == 1 {
					b.kill(t, n, true)
				}
			}
		}
	}
}

// P12.3: copies of copies, and what each of them was made of.
func TestCopyOfCopy(t *testing.T) {
	b := made(t, planOf(1, 9, 1, 4))
	l := []both{b}
	for n := range 4 {
		c := l[n].copied()
		c.put(t, n, data(n), api.OK)
		c.kill(t, n, true)
		l = append(l, c)
	}
	for n, c := range l {
		c.like(t)
		if c.backs.Len() != n || c.backs.Room() != 4-n {
			t.Error(n, c.backs.Len(), c.backs.Room())
		}
	}
}

// do does one of 12 things to both, of 4 blocks.
func (b both) do(t *testing.T, what, stamp int) {
	t.Helper()
	block := what % 4
	switch what / 4 {
	case 0:
		if e, want := b.backs.Put(block, data(stamp)), b.model.put(block, data(stamp)); e != want {
			t.Fatal("Put", block, e, "not", want)
		}
	case 1:
		if is, want := b.backs.Kill(block), b.model.kill(block); is != want {
			t.Fatal("Kill", block, is, "not", want)
		}
	case 2:
		if is, want := b.backs.Drop(block), b.model.drop(block); is != want {
			t.Fatal("Drop", block, is, "not", want)
		}
	}
}

// P12.4, P12.1 to P12.3: each row of four calls, on backs with room for 1 to 4.
func TestRows(t *testing.T) {
	for most := 1; most <= 4; most++ {
		for row := range 12 * 12 * 12 * 12 {
			b := made(t, planOf(1, 5, 1, most))
			for n := range 4 {
				b.do(t, row%12, n)
				b.like(t)
				row /= 12
			}
		}
	}
}

// mixed is a row of numbers that are as good as picked at random; the same ones each time.
func mixed(m uint32) func(below int) int {
	return func(below int) int {
		m = m*1664525 + 1013904223
		return int(m>>8) % below
	}
}

// P12.4, P12.1 to P12.3: whatever is done, to backs and to copies of them: they are as the model is.
func TestRuns(t *testing.T) {
	for i := range 40 {
		pick := mixed(uint32(i))
		l := []both{made(t, planOf(1, 5, 1, i%4+1))}
		for n := range 600 {
			j := pick(len(l))
			l[j].do(t, pick(12), n)
			if n%150 == 149 {
				l = append(l, l[j].copied())
			}
			for _, b := range l {
				b.like(t)
			}
			if t.Failed() {
				t.Fatal("run", i, n)
			}
		}
	}
}

// P12.4: each block is there once at most, so that one Drop ends it; what is there has the data that was put.
func TestOnce(t *testing.T) {
	for most := 1; most <= 4; most++ {
		pick, k := mixed(uint32(most)), made(t, planOf(1, 8, 1, most)).backs
		put := map[int]api.Block{}
		for n := range 3000 {
			block := pick(7)
			switch pick(4) {
			case 0, 1:
				if k.Put(block, data(n)) == api.OK {
					put[block] = data(n)
				}
			case 2:
				k.Kill(block)
			case 3:
				d, _, is := k.Find(block)
				if _, was := put[block]; is != was || d != put[block] {
					t.Fatal("Find", n, block, d, is, "not", put[block])
				}
				k.Drop(block)
				if _, _, is := k.Find(block); is {
					t.Fatal("Drop", n, block)
				}
				delete(put, block)
			}
			if k.Len() != len(put) || k.Len()+k.Room() != most {
				t.Fatal("Len, Room", n, k.Len(), k.Room(), "not", len(put))
			}
		}
	}
}

// R3, R5: what was put, and what was found, are the caller's: that they change changes nothing; the same calls answer the same.
func TestDataIsApart(t *testing.T) {
	b := made(t, small)
	d := data(1)
	b.put(t, 3, d, api.OK)
	d[0], d[15] = 0, 0
	b.like(t)
	d, _, _ = b.backs.Find(3)
	d[7] = 0
	b.like(t)
	var first, again []any
	for _, l := range []*[]any{&first, &again} {
		k := made(t, planOf(2, 20, 1, 4)).backs
		for _, change := range changes {
			change(k)
			*l = append(*l, seen(k)...)
		}
	}
	if !slices.Equal(first, again) {
		t.Error(first, "not", again)
	}
}

// The chapter's table.
func TestExamples(t *testing.T) {
	k := made(t, small).backs
	d := data(7)
	if a, b, c := k.Put(3, d), k.Put(3, d), k.Put(4, d); a != api.OK || b != api.ErrState || c != api.ErrFull {
		t.Error("Put", a, b, c)
	}
	if x, live, is := k.Find(3); x != d || !live || !is {
		t.Error("Find", x, live, is)
	}
	if a, b := k.Kill(3), k.Kill(3); !a || b {
		t.Error("Kill", a, b)
	}
	if x, live, is := k.Find(3); x != d || live || !is {
		t.Error("Find", x, live, is)
	}
	if is, room := k.Drop(3), k.Room(); !is || room != 1 {
		t.Error("Drop, Room", is, room)
	}
}
