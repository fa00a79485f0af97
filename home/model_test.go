package home_test

import (
	"slices"
	"testing"

	"undertow/api"
	"undertow/home"
	"undertow/mem"
)

// The kinds of notes, by the document's numbers.
const (
	getS   uint8 = 1
	getM   uint8 = 2
	put    uint8 = 3
	down   uint8 = 4
	inv    uint8 = 5
	data   uint8 = 6
	nack   uint8 = 7
	putAck uint8 = 8
	ack    uint8 = 9
	refuse uint8 = 10
	done   uint8 = 11
)

// What cores tell the home.

func asks(kind uint8, core, block int, stamp uint64) api.Note {
	return api.Note{Kind: kind, From: core, To: -1, Block: block, Stamp: stamp}
}

func puts(core, block int, b api.Block, stick bool) api.Note {
	return api.Note{Kind: put, From: core, To: -1, Block: block, Has: true, Stick: stick, Data: b}
}

func acks(core, block int) api.Note {
	return api.Note{Kind: ack, From: core, To: -1, Block: block}
}

func acksWith(core, block int, b api.Block) api.Note {
	return api.Note{Kind: ack, From: core, To: -1, Block: block, Has: true, Data: b}
}

func refuses(core, block int, stamp uint64) api.Note {
	return api.Note{Kind: refuse, From: core, To: -1, Block: block, Stamp: stamp}
}

func saysDone(core, block int) api.Note {
	return api.Note{Kind: done, From: core, To: -1, Block: block}
}

// What the home tells cores.

func toDown(core, block int, stamp uint64) api.Note {
	return api.Note{Kind: down, From: -1, To: core, Block: block, Stamp: stamp}
}

func toInv(core, block int, stamp uint64) api.Note {
	return api.Note{Kind: inv, From: -1, To: core, Block: block, Stamp: stamp}
}

func toData(core, block int, s api.State, b api.Block) api.Note {
	return api.Note{Kind: data, From: -1, To: core, Block: block, State: s, Has: true, Data: b}
}

func toNack(core, block int, stamp uint64) api.Note {
	return api.Note{Kind: nack, From: -1, To: core, Block: block, Stamp: stamp}
}

func toPutAck(core, block int) api.Note {
	return api.Note{Kind: putAck, From: -1, To: core, Block: block}
}

// filled is a block whose words are all different, and others for each x.
func filled(x int) api.Block {
	var b api.Block
	for w := range b {
		b[w] = uint32(x)<<8 + uint32(w) + 1
	}
	return b
}

// known is an entry, core by core.
type known struct {
	owner  int
	shares [16]bool
}

func (k known) entry() api.Entry {
	e := api.Entry{Owner: k.owner}
	weight := api.Mask(1)
	for _, is := range k.shares {
		if is {
			e.Sharers += weight
		}
		weight *= 2
	}
	return e
}

func (k known) sharers() []int {
	var l []int
	for core, is := range k.shares {
		if is {
			l = append(l, core)
		}
	}
	return l
}

// underWay is an ask, who was asked, and what they said; or it was answered.
type underWay struct {
	ask      api.Note
	asked    []int
	said     []api.Note
	answered bool
}

func (u underWay) heard(core int) bool {
	return slices.ContainsFunc(u.said, func(n api.Note) bool { return n.From == core })
}

// model is what the chapter's words say of a home, all in rows.
type model struct {
	cores, data, room int
	entries           []known
	memory            []api.Block
	under             []underWay
	waits             []api.Note
}

func (m *model) copy() *model {
	c := *m
	c.entries, c.memory, c.waits = slices.Clone(m.entries), slices.Clone(m.memory), slices.Clone(m.waits)
	c.under = nil
	for _, u := range m.under {
		u.said = slices.Clone(u.said)
		c.under = append(c.under, u)
	}
	return &c
}

// at is where what is under way of a block stands; -1, if none is.
func (m *model) at(block int) int {
	return slices.IndexFunc(m.under, func(u underWay) bool { return u.ask.Block == block })
}

func (m *model) fits(n api.Note) bool {
	if n.To != -1 || n.From < 0 || n.From >= m.cores || n.Block < 0 || n.Block >= m.data || n.State != 0 {
		return false
	}
	if !n.Has && n.Data != (api.Block{}) {
		return false
	}
	switch n.Kind {
	case getS, getM, refuse:
		return !n.Has && !n.Stick
	case put:
		return n.Has && n.Stamp == 0
	case ack:
		return !n.Stick && n.Stamp == 0
	case done:
		return !n.Has && !n.Stick && n.Stamp == 0
	}
	return false
}

func (m *model) ready(n api.Note) api.Errno {
	if !m.fits(n) {
		return api.ErrArg
	}
	i := m.at(n.Block)
	var u underWay
	if i >= 0 {
		u = m.under[i]
	}
	switch n.Kind {
	case getS, getM, put:
		if i >= 0 && len(m.waits) == m.room {
			return api.ErrBusy
		}
	case ack, refuse:
		if i < 0 || u.answered || !slices.Contains(u.asked, n.From) || u.heard(n.From) {
			return api.ErrState
		}
	case done:
		if i < 0 || !u.answered || u.ask.From != n.From {
			return api.ErrState
		}
	}
	return api.OK
}

func (m *model) take(n api.Note) ([]api.Note, api.Errno) {
	if e := m.ready(n); e != api.OK {
		return nil, e
	}
	i := m.at(n.Block)
	switch n.Kind {
	case ack, refuse:
		return m.hear(i, n), api.OK
	case done:
		return m.end(i), api.OK
	}
	if i >= 0 {
		m.waits = append(m.waits, n)
		return nil, api.OK
	}
	return m.begin(n), api.OK
}

func (m *model) begin(n api.Note) []api.Note {
	k := &m.entries[n.Block]
	if n.Kind == put {
		if k.owner == n.From {
			m.memory[n.Block] = n.Data
			if !n.Stick {
				*k = known{owner: -1}
			}
		}
		return []api.Note{toPutAck(n.From, n.Block)}
	}
	u := underWay{ask: n}
	if k.owner != -1 && k.owner != n.From {
		u.asked = []int{k.owner}
	} else if n.Kind == getM {
		u.asked = slices.DeleteFunc(k.sharers(), func(core int) bool { return core == n.From })
	}
	m.under = append(m.under, u)
	if len(u.asked) == 0 {
		return m.answer(len(m.under) - 1)
	}
	var out []api.Note
	for _, core := range u.asked {
		if n.Kind == getS {
			out = append(out, toDown(core, n.Block, n.Stamp))
		} else {
			out = append(out, toInv(core, n.Block, n.Stamp))
		}
	}
	return out
}

func (m *model) hear(i int, n api.Note) []api.Note {
	u := &m.under[i]
	u.said = append(u.said, n)
	if n.Has {
		m.memory[n.Block] = n.Data
	}
	if len(u.said) < len(u.asked) {
		return nil
	}
	var stamps []uint64
	for _, s := range u.said {
		if s.Kind == refuse {
			stamps = append(stamps, s.Stamp)
		}
	}
	if len(stamps) == 0 {
		return m.answer(i)
	}
	out := []api.Note{toNack(u.ask.From, n.Block, slices.Min(stamps))}
	return append(out, m.end(i)...)
}

func (m *model) answer(i int) []api.Note {
	u := &m.under[i]
	u.answered = true
	x, block := u.ask.From, u.ask.Block
	k := &m.entries[block]
	var s api.State
	others := k.shares
	others[x] = false
	switch {
	case u.ask.Kind == getM:
		*k, s = known{owner: x}, 3
	case k.owner != -1 && k.owner != x:
		was := k.owner
		*k, s = known{owner: -1}, 1
		k.shares[was], k.shares[x] = true, true
	case others == [16]bool{}:
		*k, s = known{owner: x}, 2
	default:
		k.shares[x], s = true, 1
	}
	return []api.Note{toData(x, block, s, m.memory[block])}
}

func (m *model) end(i int) []api.Note {
	block := m.under[i].ask.Block
	m.under = slices.Delete(m.under, i, i+1)
	var out []api.Note
	for m.at(block) < 0 {
		i := slices.IndexFunc(m.waits, func(n api.Note) bool { return n.Block == block })
		if i < 0 {
			break
		}
		n := m.waits[i]
		m.waits = slices.Delete(m.waits, i, i+1)
		out = append(out, m.begin(n)...)
	}
	return out
}

// both are a home and its model; memory is the one that was handed in (nil of a copy, whose memory nobody sees).
type both struct {
	home   *home.Home
	memory *mem.Mem
	model  *model
}

// made is a new home over a memory whose blocks, those of logs as well, are all filled otherwise.
func made(t *testing.T, c api.Config) both {
	t.Helper()
	m, e := mem.New(c.Blocks)
	if e != api.OK {
		t.Fatal("mem.New", c.Blocks, e)
	}
	b := both{memory: m, model: &model{cores: c.Cores, data: c.Blocks - c.Cores*c.Logs, room: c.Cores * (c.Backs + 1)}}
	for i := range c.Blocks {
		m.SetBlock(i, filled(i+1000))
		b.model.memory = append(b.model.memory, filled(i+1000))
	}
	for range b.model.data {
		b.model.entries = append(b.model.entries, known{owner: -1})
	}
	b.home, e = home.New(c, m)
	if b.home == nil || e != api.OK {
		t.Fatal("New", c, b.home, e)
	}
	return b
}

func (b both) copy(t *testing.T) both {
	t.Helper()
	h := b.home.Copy()
	if h == nil || h == b.home {
		t.Fatal("Copy", h)
	}
	return both{home: h, model: b.model.copy()}
}

// send hands a note to both, of which Ready tells the same; what goes out, and the error, are the model's.
func (b both) send(t *testing.T, n api.Note) ([]api.Note, api.Errno) {
	t.Helper()
	want, w := b.model.take(n)
	for range 2 {
		if e := b.home.Ready(n); e != w {
			t.Error("Ready", n, e, "not", w)
		}
	}
	out, e := b.home.Take(n)
	if e != w || !slices.Equal(out, want) {
		t.Error("Take", n, out, e, "not", want, w)
	}
	return want, w
}

// take hands in a note of which just this goes out.
func (b both) take(t *testing.T, n api.Note, want ...api.Note) {
	t.Helper()
	out, e := b.send(t, n)
	if e != api.OK || !slices.Equal(out, want) {
		t.Error("Take", n, out, e, "not", want)
	}
	b.like(t)
}

// refuse hands in a note that is refused, and changes nothing.
func (b both) refuse(t *testing.T, n api.Note, want api.Errno) {
	t.Helper()
	if out, e := b.send(t, n); len(out) != 0 || e != want {
		t.Error("Take", n, out, e, "not", want)
	}
	b.like(t)
}

// through lets an ask go its whole way: all who are asked give way.
func (b both) through(t *testing.T, kind uint8, core, block int) {
	t.Helper()
	out, _ := b.send(t, asks(kind, core, block, 0))
	for _, n := range out {
		if n.Kind != data {
			b.send(t, acks(n.To, block))
		}
	}
	if _, e := b.send(t, saysDone(core, block)); e != api.OK || b.home.Busy(block) {
		t.Fatal("through", kind, core, block, e)
	}
}

// become lets a block of which nobody has anything get an owner (of one core), or sharers (of more).
func (b both) become(t *testing.T, block int, cores ...int) {
	t.Helper()
	for _, core := range cores {
		b.through(t, getS, core, block)
	}
	b.like(t)
}

// like tells whether all that is to be seen of the home is what the model says; what is asked changes nothing.
func (b both) like(t *testing.T) {
	t.Helper()
	if b.home.Waits() != len(b.model.waits) {
		t.Error("Waits", b.home.Waits(), "not", len(b.model.waits))
	}
	for block := -2; block < len(b.model.memory)+2; block++ {
		want, w := api.Entry{}, api.ErrRange
		if block >= 0 && block < b.model.data {
			want, w = b.model.entries[block].entry(), api.OK
		}
		if e, err := b.home.Entry(block); e != want || err != w {
			t.Error("Entry", block, e, err, "not", want, w)
		}
		if is, want := b.home.Busy(block), b.model.at(block) >= 0; is != want {
			t.Error("Busy", block, is, "not", want)
		}
	}
	if b.memory == nil {
		return
	}
	for block, want := range b.model.memory {
		if got, e := b.memory.Block(block); got != want || e != api.OK {
			t.Error("memory", block, got, e, "not", want)
		}
	}
}
