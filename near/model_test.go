package near_test

import (
	"maps"
	"slices"
	"testing"

	"undertow/api"
	"undertow/cache"
	"undertow/deal"
	"undertow/near"
	"undertow/net"
)

// The kinds of notes, by the document's numbers.
const (
	getS   uint8 = 1
	getM   uint8 = 2
	put    uint8 = 3
	down   uint8 = 4
	inv    uint8 = 5
	data   uint8 = 6
	nack   uint8 = 7
	putAck uint8 = 8
	ack    uint8 = 9
	refuse uint8 = 10
	done   uint8 = 11
)

// The states of lines.
const (
	shared api.State = 1
	alone  api.State = 2
	own    api.State = 3
)

// What a core tells the home.

func asks(kind uint8, core, block int, stamp uint64) api.Note {
	return api.Note{Kind: kind, From: core, To: -1, Block: block, Stamp: stamp}
}

func puts(core, block int, b api.Block, stick bool) api.Note {
	return api.Note{Kind: put, From: core, To: -1, Block: block, Has: true, Stick: stick, Data: b}
}

func acks(core, block int) api.Note {
	return api.Note{Kind: ack, From: core, To: -1, Block: block}
}

func acksWith(core, block int, b api.Block) api.Note {
	return api.Note{Kind: ack, From: core, To: -1, Block: block, Has: true, Data: b}
}

func refuses(core, block int, stamp uint64) api.Note {
	return api.Note{Kind: refuse, From: core, To: -1, Block: block, Stamp: stamp}
}

func saysDone(core, block int) api.Note {
	return api.Note{Kind: done, From: core, To: -1, Block: block}
}

// What the home tells a core.

// tells is a note without data: of the kinds down, inv and nack with a stamp.
func tells(kind uint8, core, block int, stamp uint64) api.Note {
	return api.Note{Kind: kind, From: -1, To: core, Block: block, Stamp: stamp}
}

func toData(core, block int, s api.State, b api.Block) api.Note {
	return api.Note{Kind: data, From: -1, To: core, Block: block, State: s, Has: true, Data: b}
}

func toPutAck(core, block int) api.Note {
	return api.Note{Kind: putAck, From: -1, To: core, Block: block}
}

// filled is a block whose words are all different, and others for each n; none of them is 0.
func filled(n int) api.Block {
	var b api.Block
	for w := range b {
		b[w] = 0x80000001 + uint32(n)<<8 + uint32(w)<<2
	}
	return b
}

// save is one of which no two are alike.
func save(n int) api.Save {
	s := api.Save{Handler: 1000 + n}
	for i := range s.Regs {
		s.Regs[i] = 0x80000000 + uint32(n)<<8 + uint32(i)
	}
	return s
}

// back is what is to be known of a block that goes back.
type back struct {
	data api.Block
	live bool
}

// marked is what is to be known of a block that a transaction has used.
type marked struct{ read, wrote bool }

// model is what the chapter says of a near. Its lines and its deal are of the layers 7 and 16; of the other layers it is made of there is nothing in it.
type model struct {
	c     api.Config
	core  int
	lines *cache.Cache
	backs map[int]back
	marks map[int]marked
	deal  *deal.Deal
	waits []api.Note // none, or one
}

func modelOf(c api.Config, core int) *model {
	lines, _ := cache.New(c)
	d, _ := deal.New(c.Nest)
	return &model{c: c, core: core, lines: lines, backs: map[int]back{}, marks: map[int]marked{}, deal: d}
}

func (m *model) copied() *model {
	return &model{
		m.c, m.core, m.lines.Copy(), maps.Clone(m.backs), maps.Clone(m.marks), m.deal.Copy(), slices.Clone(m.waits),
	}
}

// data is how many data blocks there are.
func (m *model) data() int { return m.c.Blocks - m.c.Cores*m.c.Logs }

// answer is what a call answers, beside its error.
type answer struct {
	out []api.Note
	yes bool // it is ready, or it gives way
	e   api.Errno
}

func (a answer) like(b answer) bool {
	return slices.Equal(a.out, b.out) && a.yes == b.yes && a.e == b.e
}

func (m *model) ask(block int, write bool) answer {
	l, is := m.lines.Find(block)
	_, goesBack := m.backs[block]
	goes, full := m.lines.Goes(block)
	switch {
	case block < 0 || block > m.data()-1:
		return answer{e: api.ErrArg}
	case len(m.waits) > 0:
		return answer{e: api.ErrState}
	case is && (l.State == alone || l.State == own || l.State == shared && !write):
		return answer{yes: true}
	case goesBack:
		return answer{e: api.ErrBusy}
	case !is && full && goes.State != shared && len(m.backs) == m.c.Backs:
		return answer{e: api.ErrBusy}
	}
	var out []api.Note
	if !is && full {
		m.lines.Drop(goes.Block)
		if goes.State != shared {
			m.backs[goes.Block] = back{goes.Data, true}
			out = append(out, puts(m.core, goes.Block, goes.Data, m.marks[goes.Block] != marked{}))
		}
	}
	kind := getS
	if write {
		kind = getM
	}
	m.waits = []api.Note{asks(kind, m.core, block, m.deal.Stamp())}
	return answer{out: append(out, m.waits...)}
}

// use is Load, and, with write, Store of x.
func (m *model) use(block, word int, write bool, x uint32) (uint32, api.Errno) {
	l, is := m.lines.Find(block)
	switch {
	case !is:
		return 0, api.ErrNone
	case word < 0 || word > 15:
		return 0, api.ErrRange
	case write && l.State == shared:
		return 0, api.ErrState
	}
	was, mark := l.Data[word], m.marks[block]
	if write {
		l.Data[word], l.State, mark.wrote = x, own, true
	} else {
		mark.read = true
	}
	m.lines.Put(l)
	if m.deal.Depth() > 0 {
		m.marks[block] = mark
	}
	return was, api.OK
}

// fits tells whether n fits the plan: a net of it lets it be on its way.
func (m *model) fits(n api.Note) bool {
	way, _ := net.New(m.c, 1)
	return way.Send(n) == api.OK
}

func (m *model) take(n api.Note) answer {
	if !m.fits(n) || n.To != m.core {
		return answer{e: api.ErrArg}
	}
	var ask api.Note
	for _, w := range m.waits {
		if w.Block == n.Block {
			ask = w
		}
	}
	_, goesBack := m.backs[n.Block]
	switch n.Kind {
	case data:
		switch {
		case ask.Kind == getM && n.State == own, ask.Kind == getS && n.State != own:
			m.waits = nil
			m.lines.Put(api.Line{Block: n.Block, State: n.State, Data: n.Data})
			return answer{out: []api.Note{saysDone(m.core, n.Block)}}
		}
		return answer{e: api.ErrState}
	case nack:
		if ask.Kind == 0 {
			return answer{e: api.ErrState}
		}
		m.waits = nil
		return answer{yes: m.deal.Refused(n.Stamp)}
	case putAck:
		if !goesBack {
			return answer{e: api.ErrState}
		}
		delete(m.backs, n.Block)
		return answer{}
	}
	return m.asked(n)
}

// asked is of the kinds down and inv.
func (m *model) asked(n api.Note) answer {
	mark := m.marks[n.Block]
	if m.deal.Asked(mark.wrote || n.Kind == inv && mark.read, n.Stamp) {
		return answer{out: []api.Note{refuses(m.core, n.Block, m.deal.Stamp())}}
	}
	l, is := m.lines.Find(n.Block)
	b := m.backs[n.Block]
	out := acks(m.core, n.Block)
	switch {
	case is && l.State != shared:
		out = acksWith(m.core, n.Block, l.Data)
	case b.live:
		out = acksWith(m.core, n.Block, b.data)
		m.backs[n.Block] = back{b.data, false}
	}
	if n.Kind == inv {
		m.lines.Drop(n.Block)
	} else {
		m.lines.Turn(n.Block, shared)
	}
	return answer{out: []api.Note{out}}
}

// both are a near, and its model.
type both struct {
	near  *near.Near
	model *model
}

func made(t *testing.T, c api.Config, core int) both {
	t.Helper()
	k, e := near.New(c, core)
	if k == nil || e != api.OK {
		t.Fatal("New", c, core, k, e)
	}
	return both{k, modelOf(c, core)}
}

func (b both) copied() both { return both{b.near.Copy(), b.model.copied()} }

// What follows does the same to both, and holds what is answered against each other.

func (b both) ask(t *testing.T, block int, write bool) answer {
	t.Helper()
	want := b.model.ask(block, write)
	ready, out, e := b.near.Ask(block, write)
	if got := (answer{out, ready, e}); !got.like(want) {
		t.Error("Ask", block, write, got, "not", want)
	}
	return want
}

func (b both) load(t *testing.T, block, word int) (uint32, api.Errno) {
	t.Helper()
	want, wantE := b.model.use(block, word, false, 0)
	if x, e := b.near.Load(block, word); x != want || e != wantE {
		t.Error("Load", block, word, x, e, "not", want, wantE)
	}
	return want, wantE
}

func (b both) store(t *testing.T, block, word int, x uint32) (uint32, api.Errno) {
	t.Helper()
	want, wantE := b.model.use(block, word, true, x)
	if old, e := b.near.Store(block, word, x); old != want || e != wantE {
		t.Error("Store", block, word, x, old, e, "not", want, wantE)
	}
	return want, wantE
}

func (b both) take(t *testing.T, n api.Note) answer {
	t.Helper()
	want := b.model.take(n)
	out, gives, e := b.near.Take(n)
	if got := (answer{out, gives, e}); !got.like(want) {
		t.Error("Take", n, got, "not", want)
	}
	return want
}

func (b both) clear() {
	clear(b.model.marks)
	b.near.Clear()
}

// deals does the same to both deals.
func (b both) deals(do func(d *deal.Deal)) {
	do(b.model.deal)
	do(b.near.Deal())
}

func (b both) begin(stamp uint64) {
	b.deals(func(d *deal.Deal) { d.Begin(save(int(stamp%100)), stamp) })
}

func (b both) end() { b.deals(func(d *deal.Deal) { d.End() }) }

func (b both) fail(cause uint32) { b.deals(func(d *deal.Deal) { d.Fail(cause) }) }

func (b both) over() { b.deals(func(d *deal.Deal) { d.Over() }) }

func (b both) flag() { b.deals(func(d *deal.Deal) { d.Asked(true, 1) }) }

// like tells whether all that is to be seen of the near is what the model says; that it is asked changes nothing.
func (b both) like(t *testing.T) {
	t.Helper()
	m := b.model
	for range 2 {
		var want api.Note
		if len(m.waits) > 0 {
			want = m.waits[0]
		}
		if n, is := b.near.Waits(); n != want || is != (len(m.waits) > 0) {
			t.Error("Waits", n, is, "not", m.waits)
		}
		if d := b.near.Deal(); d == nil || *d != *m.deal {
			t.Error("Deal", d, "not", m.deal)
		}
		for block := -2; block < m.data()+2; block++ {
			b.likeOf(t, block)
		}
	}
}

func (b both) likeOf(t *testing.T, block int) {
	t.Helper()
	want, there := b.model.lines.Find(block)
	if l, is := b.near.Line(block); l != want || is != there {
		t.Error("Line", block, l, is, "not", want, there)
	}
	wantBack, goes := b.model.backs[block]
	if d, live, is := b.near.Back(block); d != wantBack.data || live != wantBack.live || is != goes {
		t.Error("Back", block, d, live, is, "not", wantBack, goes)
	}
	mark := b.model.marks[block]
	if read, wrote := b.near.Marked(block); read != mark.read || wrote != mark.wrote {
		t.Error("Marked", block, read, wrote, "not", mark)
	}
	if there && goes {
		t.Error(block, "is in the cache, and among the backs")
	}
}

// likeInside tells whether what is not to be seen is what it should be, too: which line goes for another block, again and again, till there are no lines.
func (b both) likeInside(t *testing.T) {
	t.Helper()
	for set := range b.model.c.Sets {
		c := b.copied()
		for block := set; block < b.model.data(); block += b.model.c.Sets {
			if w := c.model.waits; len(w) > 0 {
				c.take(t, tells(nack, c.model.core, w[0].Block, 1))
			}
			if c.ask(t, block, false).e == api.ErrBusy {
				for gone := range c.model.copied().backs {
					c.take(t, toPutAck(c.model.core, gone))
				}
				c.ask(t, block, false)
			}
			// The way of the line that went is taken, so that another one goes.
			c.take(t, toData(c.model.core, block, shared, filled(block)))
		}
		c.likeBriefly(t)
	}
}

// likeBriefly is like, but once, and of the deal and the lines alone.
func (b both) likeBriefly(t *testing.T) {
	t.Helper()
	for block := range b.model.data() {
		b.likeOf(t, block)
	}
}
