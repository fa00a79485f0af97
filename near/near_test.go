package near_test

import (
	"math"
	"slices"
	"testing"

	"undertow/api"
	"undertow/deal"
	"undertow/near"
)

// huge are numbers far from all that a plan has, and such as are like small ones if upper bits were dropped.
var huge = []int{
	math.MinInt, math.MinInt + 1, math.MinInt32, math.MaxInt, math.MaxInt - 1, math.MaxInt32, math.MaxUint32,
	1 << 8, 1<<8 + 1, 1<<8 + 3, 1 << 16, 1<<16 + 1, 1 << 32, 1<<32 + 1, 1<<32 + 3, 1<<32 - 1, 1 << 62, 1<<62 + 1,
	-1 << 8, 1 - 1<<8, 3 - 1<<8, -1 << 16, 1 - 1<<16, -1 << 32, 1 - 1<<32, 3 - 1<<32, -1 << 62, -1<<62 - 1,
}

// stamps are nobody's, and some that are, beside them, older and younger than 9.
var stamps = []uint64{0, 1, 8, 9, 10, 255, 256 + 8, 1 << 32, 1<<32 + 8, 1 << 63, 1<<63 + 8, math.MaxUint64}

var yesAndNo = []bool{true, false}

// tiny is the plan of the chapter's examples; there is room for one line, and one back.
var tiny = api.Config{Cores: 2, Sets: 1, Ways: 1, Blocks: 10, Logs: 1, Backs: 1, Nest: 1}

// two has two sets of one way each, and two backs; transactions may be two deep.
var two = api.Config{Cores: 3, Sets: 2, Ways: 1, Blocks: 15, Logs: 1, Backs: 2, Nest: 2}

// four has one set of four ways.
var four = api.Config{Cores: 4, Sets: 1, Ways: 4, Blocks: 20, Logs: 2, Backs: 4, Nest: 3}

// plans are some that may be, with how many data blocks each has.
var plans = []struct {
	c    api.Config
	data int
}{
	{tiny, 8},
	{two, 12},
	{four, 12},
	{api.Config{Cores: 1, Sets: 1, Ways: 1, Blocks: 2, Logs: 1, Backs: 1, Nest: 1}, 1},
	{api.Config{Cores: 1, Sets: 16, Ways: 4, Blocks: 256, Logs: 1, Backs: 4, Nest: 8, Tries: 8}, 255},
	{api.Config{Cores: 16, Sets: 8, Ways: 2, Blocks: 256, Logs: 4, Backs: 3, Nest: 4}, 192},
	{api.Config{Cores: 16, Sets: 2, Ways: 2, Blocks: 17, Logs: 1, Backs: 2, Nest: 2, Tries: 1}, 1},
	{api.Config{Cores: 3, Sets: 4, Ways: 2, Blocks: 30, Logs: 3, Backs: 1, Nest: 2}, 21},
}

func TestNumbersOfTheDocument(t *testing.T) {
	if api.OK != 0 || api.ErrNil != 1 || api.ErrArg != 2 || api.ErrNone != 4 || api.ErrRange != 5 || api.ErrState != 8 || api.ErrBusy != 110 {
		t.Error(api.OK, api.ErrNil, api.ErrArg, api.ErrNone, api.ErrRange, api.ErrState, api.ErrBusy)
	}
	if api.NtGetS != getS || api.NtGetM != getM || api.NtPut != put || api.NtDown != down || api.NtInv != inv || api.NtData != data {
		t.Error(api.NtGetS, api.NtGetM, api.NtPut, api.NtDown, api.NtInv, api.NtData)
	}
	if api.NtNack != nack || api.NtPutAck != putAck || api.NtAck != ack || api.NtRefuse != refuse || api.NtDone != done {
		t.Error(api.NtNack, api.NtPutAck, api.NtAck, api.NtRefuse, api.NtDone)
	}
	if api.Home != -1 || api.StShared != shared || api.StAlone != alone || api.StOwn != own || len(api.Block{}) != 16 {
		t.Error(api.Home, api.StShared, api.StAlone, api.StOwn, len(api.Block{}))
	}
}

// fieldOf is a field of a plan, in their order.
func fieldOf(c *api.Config, i int) *int {
	return []*int{&c.Cores, &c.Sets, &c.Ways, &c.Blocks, &c.Logs, &c.Backs, &c.Nest, &c.Tries}[i]
}

// badPlans are such as may not be: each field just past a bound, and huge; and no data block.
func badPlans() []api.Config {
	wrong := [][]int{
		{-1, 0, 17, 18}, {-1, 0, 3, 5, 6, 12, 17, 32}, {-1, 0, 3, 5, 8}, {-1, 0, 1, 2, 257},
		{-1, 0, 5}, {-1, 0, 5}, {-1, 0, 9}, {-1, 9},
	}
	l := []api.Config{{}}
	for i, numbers := range wrong {
		for _, x := range slices.Concat(numbers, huge) {
			c := tiny
			if *fieldOf(&c, i) = x; i != 3 || x < 3 || x > 256 {
				l = append(l, c)
			}
		}
	}
	return l
}

// P17.1: each core of a plan has a near; it has nothing, and is of that core.
func TestNew(t *testing.T) {
	for _, p := range plans {
		for core := range p.c.Cores {
			b := made(t, p.c, core)
			if b.model.data() != p.data {
				t.Fatal(p, b.model.data())
			}
			b.like(t)
			for block := range p.data {
				if l, is := b.near.Line(block); is || l != (api.Line{}) {
					t.Error("Line", p, core, block, l)
				}
				if d, live, is := b.near.Back(block); is || live || d != (api.Block{}) {
					t.Error("Back", p, core, block, d, live)
				}
				if read, wrote := b.near.Marked(block); read || wrote {
					t.Error("Marked", p, core, block)
				}
			}
			if n, is := b.near.Waits(); is || n != (api.Note{}) {
				t.Error("Waits", p, core, n)
			}
			if d := b.near.Deal(); d.Depth() != 0 || d.Stamp() != 0 || d.Flag() || d.Failing() {
				t.Error("Deal", p, core, d)
			}
			want := []api.Note{asks(getS, core, p.data-1, 0)}
			if ready, out, e := b.near.Ask(p.data-1, false); ready || !slices.Equal(out, want) || e != api.OK {
				t.Error("Ask", p, core, ready, out, e)
			}
		}
	}
}

// P17.1: its deal may be as deep as the plan's transactions.
func TestNewNest(t *testing.T) {
	for nest := 1; nest <= 8; nest++ {
		c := two
		c.Nest = nest
		d := made(t, c, 0).near.Deal()
		for range nest {
			if e := d.Begin(save(1), 3); e != api.OK {
				t.Error(nest, e)
			}
		}
		if e := d.Begin(save(1), 3); e != api.ErrFull || d.Depth() != nest {
			t.Error(nest, e, d.Depth())
		}
	}
}

// P17.1, R2: of plans that may not be there is none, whichever core it is; nor of cores that there are not.
func TestNewOfWrong(t *testing.T) {
	for _, c := range badPlans() {
		for _, core := range []int{0, -1, 1, 2, 16, math.MaxInt, math.MinInt} {
			if k, e := near.New(c, core); k != nil || e != api.ErrArg {
				t.Error("New", c, core, k, e)
			}
		}
	}
	for _, p := range plans {
		for _, core := range append([]int{-1, -2, p.c.Cores, p.c.Cores + 1, 16, 17}, huge...) {
			if k, e := near.New(p.c, core); k != nil || e != api.ErrRange {
				t.Error("New", p, core, k, e)
			}
		}
	}
}

// P17.1: those of one core, made twice, have nothing to do with one another.
func TestNewIsAnother(t *testing.T) {
	a, b := made(t, tiny, 1), made(t, tiny, 1)
	a.begin(9)
	a.get(t, 3, own)
	a.store(t, 3, 0, 5)
	a.ask(t, 4, false)
	b.like(t)
	b.get(t, 4, shared)
	a.like(t)
	b.like(t)
	made(t, tiny, 1).like(t)
}

// R4: of none, whatever is asked.
func TestNil(t *testing.T) {
	var k *near.Near
	for _, block := range append([]int{0, 1, 7, 8, 255, 256, -1}, huge...) {
		for _, write := range yesAndNo {
			if ready, out, e := k.Ask(block, write); ready || len(out) > 0 || e != api.ErrNil {
				t.Error("Ask", block, write, ready, out, e)
			}
		}
		for _, word := range []int{0, 15, 16, -1, math.MaxInt} {
			if x, e := k.Load(block, word); x != 0 || e != api.ErrNil {
				t.Error("Load", block, word, x, e)
			}
			if x, e := k.Store(block, word, 7); x != 0 || e != api.ErrNil {
				t.Error("Store", block, word, x, e)
			}
		}
		for kind := range uint8(13) {
			if out, gives, e := k.Take(tells(kind, 0, block, 0)); len(out) > 0 || gives || e != api.ErrNil {
				t.Error("Take", kind, block, out, gives, e)
			}
		}
		if l, is := k.Line(block); is || l != (api.Line{}) {
			t.Error("Line", block, l, is)
		}
		if d, live, is := k.Back(block); is || live || d != (api.Block{}) {
			t.Error("Back", block, d, live, is)
		}
		if read, wrote := k.Marked(block); read || wrote {
			t.Error("Marked", block, read, wrote)
		}
	}
	k.Clear()
	if n, is := k.Waits(); is || n != (api.Note{}) || k.Deal() != nil || k.Copy() != nil {
		t.Error(n, is, k.Deal(), k.Copy())
	}
	if e := k.Deal().Begin(save(1), 1); e != api.ErrNil {
		t.Error("Begin", e)
	}
}

// noData are numbers that are no data block of a plan, some of them blocks of its logs.
func noData(data int) []int {
	l := append([]int{-1, -2, -data - 1, -255, -256}, huge...)
	for block := data; block < 260; block++ {
		l = append(l, block)
	}
	return l
}

// get lets a near ask for a block, of which there is no line, and get it, with data of its number, in that state.
func (b both) get(t *testing.T, block int, s api.State) {
	t.Helper()
	if a := b.ask(t, block, s == own); a.yes || len(a.out) == 0 || a.e != api.OK {
		t.Fatal("Ask", block, s, a)
	}
	a := b.take(t, toData(b.model.core, block, s, filled(block)))
	if want := (answer{out: []api.Note{saysDone(b.model.core, block)}}); !a.like(want) {
		t.Fatal("Take", block, s, a)
	}
	if l, is := b.near.Line(block); !is || l != (api.Line{Block: block, State: s, Data: filled(block)}) {
		t.Fatal("Line", block, s, l, is)
	}
}

// P17.2: what is ready, and what goes out where it is not, of each state of a line.
func TestAsk(t *testing.T) {
	tables := []struct {
		s     api.State
		write bool
		kind  uint8 // what goes out: 0, if it is ready
	}{
		{0, false, getS}, {0, true, getM}, {shared, false, 0}, {shared, true, getM},
		{alone, false, 0}, {alone, true, 0}, {own, false, 0}, {own, true, 0},
	}
	for _, p := range plans {
		for _, x := range tables {
			for _, stamp := range stamps {
				core, block := p.c.Cores-1, p.data/2
				b := made(t, p.c, core)
				if x.s != 0 {
					b.get(t, block, x.s)
				}
				b.begin(stamp)
				want := answer{yes: true}
				if x.kind != 0 {
					want = answer{out: []api.Note{asks(x.kind, core, block, stamp)}}
				}
				if a := b.ask(t, block, x.write); !a.like(want) {
					t.Error("Ask", p, x, stamp, a)
				}
				if n, waits := b.near.Waits(); waits != (x.kind != 0) || waits && n != want.out[0] {
					t.Error("Waits", p, x, stamp, n, waits)
				}
				b.like(t)
			}
		}
	}
}

// P17.2: each data block may be asked for; what is none is told ahead of all else, and nothing changes.
func TestAskOfEach(t *testing.T) {
	for _, p := range plans {
		b := made(t, p.c, 0)
		for block := range p.data {
			c := b.copied()
			if a := c.ask(t, block, true); len(a.out) != 1 || a.out[0] != asks(getM, 0, block, 0) {
				t.Error("Ask", p, block, a)
			}
		}
		for range 2 {
			for _, block := range noData(p.data) {
				for _, write := range yesAndNo {
					if a := b.ask(t, block, write); !a.like(answer{e: api.ErrArg}) {
						t.Error("Ask", p, block, write, a)
					}
				}
			}
			b.like(t)
			// It waits from then on.
			b.ask(t, 0, false)
		}
	}
}

// P17.2, R2: while it waits nothing else is asked for, not even what is ready, or goes back.
func TestAskWhileItWaits(t *testing.T) {
	for _, write := range yesAndNo {
		for _, stamp := range stamps {
			b := made(t, two, 1)
			b.get(t, 1, own)
			b.get(t, 2, own)
			b.get(t, 4, alone)
			b.begin(stamp)
			b.ask(t, 6, write)
			for block := range 12 {
				for _, other := range yesAndNo {
					if a := b.ask(t, block, other); !a.like(answer{e: api.ErrState}) {
						t.Error("Ask", block, other, a)
					}
				}
			}
			b.like(t)
			b.likeInside(t)
			want := asks(map[bool]uint8{true: getM, false: getS}[write], 1, 6, stamp)
			if n, is := b.near.Waits(); n != want || !is {
				t.Error("Waits", n, is)
			}
		}
	}
}

// P17.1, P17.2: what it waits for is the ask as it went out, whatever becomes of the transaction.
func TestWaitsAsItWentOut(t *testing.T) {
	b := made(t, two, 2)
	b.begin(7)
	b.ask(t, 3, true)
	for _, do := range []func(d *deal.Deal){
		func(d *deal.Deal) { d.End() },
		func(d *deal.Deal) { d.Begin(save(1), 8) },
		func(d *deal.Deal) { d.Fail(api.CauseConflict) },
		func(d *deal.Deal) { d.Over() },
	} {
		b.deals(do)
		if n, is := b.near.Waits(); n != asks(getM, 2, 3, 7) || !is {
			t.Error("Waits", n, is)
		}
	}
	// The stamp is kept, but nobody's while no transaction is open.
	b.take(t, tells(nack, 2, 3, 1))
	if a := b.ask(t, 3, true); !a.like(answer{out: []api.Note{asks(getM, 2, 3, 0)}}) {
		t.Error("Ask", a)
	}
	b.take(t, tells(nack, 2, 3, 1))
	b.begin(9)
	b.fail(3)
	if a := b.ask(t, 3, true); !a.like(answer{out: []api.Note{asks(getM, 2, 3, 8)}}) {
		t.Error("Ask", a)
	}
}

// P17.2: a block that goes back is busy, live or dead, to read and to write, until it is back.
func TestAskOfABack(t *testing.T) {
	for _, write := range yesAndNo {
		for _, dead := range yesAndNo {
			b := made(t, two, 0)
			b.get(t, 2, own)
			b.get(t, 4, shared)
			if dead {
				b.take(t, tells(inv, 0, 2, 0))
			}
			for range 2 {
				if a := b.ask(t, 2, write); !a.like(answer{e: api.ErrBusy}) {
					t.Error("Ask", write, dead, a)
				}
				b.like(t)
			}
			if _, is := b.near.Line(4); !is {
				t.Error("a line went for what is busy")
			}
			b.take(t, toPutAck(0, 2))
			if a := b.ask(t, 2, write); a.e != api.OK || len(a.out) != 1 {
				t.Error("Ask", write, dead, a)
			}
			b.likeInside(t)
		}
	}
}

// use lets a transaction, that commits, mark a block of which there is a line: the marks are left.
func (b both) use(t *testing.T, block int, read, wrote bool) {
	t.Helper()
	b.begin(5)
	if read {
		b.load(t, block, 1)
	}
	if wrote {
		b.store(t, block, 1, 77)
	}
	b.end()
}

// P17.2: where there is no room a line goes: without a word, if it is StShared; else by NtPut, which sticks, if it is marked.
func TestLineGoes(t *testing.T) {
	for _, s := range []api.State{shared, alone, own} {
		for _, write := range yesAndNo {
			for _, marks := range []marked{{}, {true, false}, {false, true}, {true, true}} {
				if s == shared && marks.wrote {
					continue
				}
				b := made(t, tiny, 1)
				b.get(t, 3, s)
				b.use(t, 3, marks.read, marks.wrote)
				want := filled(3)
				if marks.wrote {
					want[1] = 77
				}
				b.begin(6)
				kind := getS
				if write {
					kind = getM
				}
				out := []api.Note{asks(kind, 1, 5, 6)}
				if s != shared {
					out = []api.Note{puts(1, 3, want, marks != marked{}), asks(kind, 1, 5, 6)}
				}
				if a := b.ask(t, 5, write); !a.like(answer{out: out}) {
					t.Error("Ask", s, write, marks, a)
				}
				b.like(t)
				if _, is := b.near.Line(3); is {
					t.Error("Line", s, write, marks)
				}
				if d, live, is := b.near.Back(3); is != (s != shared) || is && (d != want || !live) {
					t.Error("Back", s, write, marks, d, live, is)
				}
				if read, wrote := b.near.Marked(3); read != marks.read || wrote != marks.wrote {
					t.Error("Marked", s, write, marks, read, wrote)
				}
			}
		}
	}
}

// P17.2: that a block is marked is asked of the one that goes, not of others.
func TestSticksForItsOwnMarks(t *testing.T) {
	b := made(t, four, 3)
	for block := range 4 {
		b.get(t, block, own)
	}
	b.use(t, 1, true, false)
	b.use(t, 3, false, true)
	for i := range 4 {
		a := b.ask(t, 4+i, true)
		if len(a.out) != 2 {
			t.Fatal("Ask", i, a)
		}
		gone := a.out[0].Block
		if a.out[0].Stick != (gone == 1 || gone == 3) {
			t.Error(a.out[0])
		}
		b.take(t, toData(3, 4+i, own, filled(i)))
	}
	b.like(t)
}

// P17.2: where no back has room, a line that is StShared may go still, another one not; nothing changes then.
func TestNoRoomAmongTheBacks(t *testing.T) {
	for most := 1; most <= 4; most++ {
		for _, s := range []api.State{shared, alone, own} {
			c := tiny
			c.Backs = most
			b := made(t, c, 0)
			for block := range most + 1 {
				b.get(t, block, own)
			}
			b.take(t, tells(down, 0, most, 0))
			if s != shared {
				b.take(t, tells(inv, 0, most, 0))
				b.get(t, most, s)
			}
			want := answer{e: api.ErrBusy}
			if s == shared {
				want = answer{out: []api.Note{asks(getM, 0, 7, 0)}}
			}
			if a := b.ask(t, 7, true); !a.like(want) {
				t.Error("Ask", most, s, a)
			}
			b.like(t)
			if s == shared {
				continue
			}
			if _, is := b.near.Line(most); !is {
				t.Error("Line", most, s)
			}
			// A dead back has its room until it is back.
			b.take(t, tells(inv, 0, 0, 0))
			if a := b.ask(t, 7, true); !a.like(want) {
				t.Error("Ask", most, s, a)
			}
			b.take(t, toPutAck(0, 0))
			if a := b.ask(t, 7, true); len(a.out) != 2 {
				t.Error("Ask", most, s, a)
			}
		}
	}
}

// P17.2: a block that is there to read is asked for to write without that a line goes; nor does one where a way is free.
func TestNoLineGoes(t *testing.T) {
	b := made(t, tiny, 0)
	b.get(t, 3, shared)
	if a := b.ask(t, 3, true); !a.like(answer{out: []api.Note{asks(getM, 0, 3, 0)}}) {
		t.Error("Ask", a)
	}
	b.like(t)
	if l, is := b.near.Line(3); !is || l.State != shared {
		t.Error("Line", l, is)
	}
	b.take(t, toData(0, 3, own, filled(30)))
	if l, _ := b.near.Line(3); l != (api.Line{Block: 3, State: own, Data: filled(30)}) {
		t.Error("Line", l)
	}
	b = made(t, four, 0)
	for block := range 3 {
		b.get(t, block, own)
	}
	if a := b.ask(t, 9, true); len(a.out) != 1 {
		t.Error("Ask", a)
	}
	b.like(t)
}

// P17.2: a line that went is gone, even if what it went for is refused; its way is free.
func TestGoneForWhatIsRefused(t *testing.T) {
	b := made(t, tiny, 0)
	b.get(t, 3, own)
	b.ask(t, 5, true)
	b.take(t, tells(nack, 0, 5, 1))
	b.like(t)
	if a := b.ask(t, 6, true); !a.like(answer{out: []api.Note{asks(getM, 0, 6, 0)}}) {
		t.Error("Ask", a)
	}
}

// P17.2, P17.3: which line goes hangs on which were used: by Load, Store and NtData, not by asks, nor by what is asked of the core.
func TestUsed(t *testing.T) {
	uses := []struct {
		name string
		use  func(t *testing.T, b both)
		goes int
	}{
		// Of four ways that were used in their order the first one goes; once that is used, the third one.
		{"nothing", func(t *testing.T, b both) {}, 0},
		{"Load", func(t *testing.T, b both) { b.load(t, 0, 3) }, 2},
		{"Store", func(t *testing.T, b both) { b.store(t, 0, 3, 8) }, 2},
		{"Ask", func(t *testing.T, b both) { b.ask(t, 0, true) }, 0},
		{"NtDown", func(t *testing.T, b both) { b.take(t, tells(down, 3, 0, 0)) }, 0},
		{"NtInv", func(t *testing.T, b both) { b.take(t, tells(inv, 3, 5, 0)) }, 0},
		{"Load that fails", func(t *testing.T, b both) { b.load(t, 0, 16) }, 0},
		{"Store that fails", func(t *testing.T, b both) { b.store(t, 0, -1, 8) }, 0},
		{"Store of StShared", func(t *testing.T, b both) {
			b.take(t, tells(down, 3, 0, 0))
			b.store(t, 0, 1, 8)
		}, 0},
		{"NtRefuse", func(t *testing.T, b both) {
			b.begin(4)
			b.store(t, 0, 0, 1)
			b.load(t, 3, 0)
			b.load(t, 1, 0)
			b.take(t, tells(inv, 3, 0, 5))
		}, 2},
		{"NtData", func(t *testing.T, b both) {
			b.take(t, tells(down, 3, 0, 0))
			b.ask(t, 0, true)
			b.take(t, toData(3, 0, own, filled(1)))
		}, 2},
	}
	for _, x := range uses {
		b := made(t, four, 3)
		for block := range 4 {
			b.get(t, block, alone)
		}
		x.use(t, b)
		b.likeInside(t)
		b.ask(t, 8, true)
		for block := range 4 {
			if _, is := b.near.Line(block); is == (block == x.goes) {
				t.Error(x.name, block, is)
			}
		}
	}
}

// P17.3: each word of a block is told, of lines of each state, and written, but of those that are StShared.
func TestLoadAndStore(t *testing.T) {
	for _, s := range []api.State{shared, alone, own} {
		b := made(t, two, 0)
		b.get(t, 3, s)
		want := filled(3)
		for word := range 16 {
			if x, e := b.load(t, 3, word); x != want[word] || e != api.OK {
				t.Error("Load", s, word, x, e)
			}
			b.like(t)
			for _, x := range []uint32{uint32(word), 0, math.MaxUint32, 1 << 31} {
				old, e := b.store(t, 3, word, x)
				if s == shared {
					if old != 0 || e != api.ErrState {
						t.Error("Store", s, word, x, old, e)
					}
					continue
				}
				if old != want[word] || e != api.OK {
					t.Error("Store", s, word, x, old, e)
				}
				want[word] = x
				if l, _ := b.near.Line(3); l != (api.Line{Block: 3, State: own, Data: want}) {
					t.Error("Line", s, word, x, l)
				}
			}
			b.like(t)
		}
	}
}

// P17.3, R2: of what is not in the cache ErrNone is told, also where there is no such word; then of what is no word ErrRange, also where others may have the block.
func TestLoadAndStoreOfWrong(t *testing.T) {
	b := made(t, two, 1)
	b.get(t, 2, own)
	b.get(t, 4, shared) // 2 goes back
	b.get(t, 3, own)
	b.ask(t, 6, false) // 4 is gone
	b.begin(3)
	for _, block := range slices.Concat([]int{0, 1, 2, 4, 5, 6, 11}, noData(12)) {
		for _, word := range append([]int{0, 15, 16, -1}, huge...) {
			if x, e := b.load(t, block, word); x != 0 || e != api.ErrNone {
				t.Error("Load", block, word, x, e)
			}
			if x, e := b.store(t, block, word, 7); x != 0 || e != api.ErrNone {
				t.Error("Store", block, word, x, e)
			}
		}
	}
	b.take(t, toData(1, 6, shared, filled(6)))
	for _, block := range []int{3, 6} {
		for _, word := range append([]int{16, 17, -1, -16, 255}, huge...) {
			if x, e := b.load(t, block, word); x != 0 || e != api.ErrRange {
				t.Error("Load", block, word, x, e)
			}
			if x, e := b.store(t, block, word, 7); x != 0 || e != api.ErrRange {
				t.Error("Store", block, word, x, e)
			}
		}
	}
	if x, e := b.store(t, 6, 0, 7); x != 0 || e != api.ErrState {
		t.Error("Store", x, e)
	}
	b.like(t)
	b.likeInside(t)
	for block := range 12 {
		if read, wrote := b.near.Marked(block); read || wrote {
			t.Error("Marked", block, read, wrote)
		}
	}
}

// P17.3: marks are made while a transaction is open, or failing, however deep, and by what is done alone.
func TestMarks(t *testing.T) {
	states := []struct {
		name  string
		into  func(b both)
		marks bool
	}{
		{"none", func(b both) {}, false},
		{"open", func(b both) { b.begin(9) }, true},
		{"two deep", func(b both) { b.begin(9); b.begin(9) }, true},
		{"one deep again", func(b both) { b.begin(9); b.begin(9); b.end() }, true},
		{"ended", func(b both) { b.begin(9); b.end() }, false},
		{"failing", func(b both) { b.begin(9); b.fail(2) }, true},
		{"over", func(b both) { b.begin(9); b.fail(2); b.over() }, false},
		{"stamp kept", func(b both) { b.begin(9); b.fail(1); b.over() }, false},
	}
	for _, x := range states {
		b := made(t, two, 0)
		b.get(t, 3, own)
		b.get(t, 4, own)
		x.into(b)
		check := func(block int, want marked) {
			t.Helper()
			if read, wrote := b.near.Marked(block); read != (want.read && x.marks) || wrote != (want.wrote && x.marks) {
				t.Error(x.name, block, read, wrote)
			}
		}
		b.ask(t, 3, true)
		check(3, marked{})
		b.load(t, 3, 0)
		check(3, marked{true, false})
		b.store(t, 4, 0, 1)
		check(4, marked{false, true})
		check(3, marked{true, false})
		b.store(t, 3, 0, 1)
		b.load(t, 4, 15)
		check(3, marked{true, true})
		check(4, marked{true, true})
		b.like(t)
		b.clear()
		b.like(t)
		check(3, marked{})
	}
}

// P17.1: marks are there until they are cleared, whatever becomes of the transaction, and of the block.
func TestClear(t *testing.T) {
	b := made(t, tiny, 0)
	b.get(t, 3, own)
	b.use(t, 3, true, true)
	b.ask(t, 4, false)
	b.take(t, toPutAck(0, 3))
	b.take(t, toData(0, 4, shared, filled(4)))
	b.begin(8)
	b.load(t, 4, 0)
	b.fail(1)
	b.over()
	b.like(t)
	for _, block := range []int{3, 4} {
		if read, wrote := b.near.Marked(block); !read || wrote != (block == 3) {
			t.Error("Marked", block, read, wrote)
		}
	}
	b.near.Clear()
	clear(b.model.marks)
	b.like(t)
	b.near.Clear()
	b.like(t)
	b.likeInside(t)
}
