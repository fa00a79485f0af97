package near_test

import (
	"slices"
	"testing"

	"undertow/api"
	"undertow/near"
)

// What the block 2 may be in the near of two.
const (
	gone = iota
	isShared
	isAlone
	isOwn
	isLive
	isDead
	places
)

// deals are ways into the states of a deal; the stamps are around 9.
var deals = []func(b both){
	func(b both) {},
	func(b both) { b.begin(9) },
	func(b both) { b.begin(9); b.begin(10); b.flag() },
	func(b both) { b.begin(9); b.flag(); b.fail(1) },
	func(b both) { b.begin(9); b.fail(1); b.over() },
}

// asksOf are the asks for which a near may wait; none by block -1.
var asksOf = []struct {
	block int
	write bool
}{{-1, false}, {2, false}, {2, true}, {4, false}, {4, true}, {1, true}}

// state is a near of two, whose block 2 is at a place and has marks, with a deal, and an ask.
func state(t *testing.T, place int, marks marked, deal, ask int) both {
	t.Helper()
	b := made(t, two, 1)
	b.get(t, 2, own)
	b.use(t, 2, marks.read, marks.wrote)
	switch place {
	case gone:
		b.take(t, tells(inv, 1, 2, 0))
	case isShared:
		b.take(t, tells(down, 1, 2, 0))
	case isAlone:
		b.take(t, tells(inv, 1, 2, 0))
		b.get(t, 2, alone)
	case isLive, isDead:
		b.ask(t, 4, false)
		b.take(t, tells(nack, 1, 4, 0))
	}
	if place == isDead {
		b.take(t, tells(down, 1, 2, 0))
	}
	deals[deal](b)
	if x := asksOf[ask]; x.block >= 0 {
		b.ask(t, x.block, x.write)
	}
	return b
}

// each does it with a near of each state that there may be.
func each(t *testing.T, do func(b both)) {
	t.Helper()
	for place := range places {
		for _, marks := range []marked{{}, {true, false}, {false, true}, {true, true}} {
			for deal := range deals {
				for ask := range asksOf {
					if do(state(t, place, marks, deal, ask)); t.Failed() {
						t.Fatal("state", place, marks, deal, ask)
					}
				}
			}
		}
	}
}

// steps are what may be done to a near of two.
func steps() []func(t *testing.T, b both) {
	var l []func(t *testing.T, b both)
	add := func(do func(t *testing.T, b both)) { l = append(l, do) }
	for _, block := range []int{1, 2, 4, 6, -1, 12} {
		for _, write := range yesAndNo {
			add(func(t *testing.T, b both) { b.ask(t, block, write) })
		}
	}
	for _, block := range []int{1, 2, 4} {
		for _, word := range []int{0, 15, 16, -1} {
			add(func(t *testing.T, b both) { b.load(t, block, word) })
			add(func(t *testing.T, b both) { b.store(t, block, word, 1234) })
		}
		for _, stamp := range []uint64{0, 3, 9, 20} {
			for _, kind := range []uint8{down, inv, nack} {
				add(func(t *testing.T, b both) { b.take(t, tells(kind, 1, block, stamp)) })
			}
		}
		for s := range own + 1 {
			add(func(t *testing.T, b both) { b.take(t, toData(1, block, s, filled(50))) })
		}
		add(func(t *testing.T, b both) { b.take(t, toPutAck(1, block)) })
		add(func(t *testing.T, b both) { b.take(t, tells(inv, 0, block, 3)) })
	}
	add(func(t *testing.T, b both) { b.clear() })
	add(func(t *testing.T, b both) { b.end() })
	add(func(t *testing.T, b both) { b.over() })
	return l
}

// P17.1 to P17.4, P17.7: each step from each state there may be; what is refused changes nothing.
func TestStates(t *testing.T) {
	all := steps()
	each(t, func(b both) {
		t.Helper()
		b.like(t)
		b.likeInside(t)
		for i, do := range all {
			c := b.copied()
			if do(t, c); t.Failed() {
				t.Fatal("step", i)
			}
			c.like(t)
			c.likeInside(t)
		}
		// None of the copies has to do with what it was made of.
		b.like(t)
		b.likeInside(t)
	})
}

// P17.1: a copy of each state goes its own way, and so does what it was made of.
func TestCopy(t *testing.T) {
	all := steps()
	each(t, func(b both) {
		t.Helper()
		c := b.copied()
		pick := mixed(7)
		for range 30 {
			all[pick(len(all))](t, b)
			c.like(t)
		}
		c.likeInside(t)
		for range 30 {
			all[pick(len(all))](t, c)
			b.like(t)
		}
		b.likeInside(t)
		if b.near.Deal() == c.near.Deal() || b.near.Copy() == b.near {
			t.Error("the same one")
		}
	})
}

// P17.1: the deal is the near's own: what is done to it is done to the near.
func TestDealIsItsOwn(t *testing.T) {
	b := made(t, two, 0)
	d := b.near.Deal()
	b.get(t, 3, own)
	d.Begin(save(1), 9)
	if b.near.Load(3, 0); d != b.near.Deal() || b.near.Deal().Stamp() != 9 {
		t.Error(d, b.near.Deal())
	}
	if read, wrote := b.near.Marked(3); !read || wrote {
		t.Error("Marked", read, wrote)
	}
	b.near.Take(tells(inv, 0, 3, 4))
	if !d.Flag() {
		t.Error("Flag")
	}
	other := b.near.Copy().Deal()
	other.End()
	if d.Depth() != 1 || !d.Flag() || other.Depth() != 0 {
		t.Error(d, other)
	}
}

// short are steps of which rows are made.
var short = []func(t *testing.T, b both){
	func(t *testing.T, b both) { b.ask(t, 0, true) },
	func(t *testing.T, b both) { b.ask(t, 1, false) },
	func(t *testing.T, b both) { b.comes(t, alone) },
	func(t *testing.T, b both) { b.store(t, 0, 0, 9) },
	func(t *testing.T, b both) { b.load(t, 1, 0) },
	func(t *testing.T, b both) { b.take(t, tells(down, 1, 0, 4)) },
	func(t *testing.T, b both) { b.take(t, tells(inv, 1, 1, 4)) },
	func(t *testing.T, b both) { b.take(t, toPutAck(1, 0)) },
	func(t *testing.T, b both) { b.begin(5) },
}

// comes lets what a near waits for come; to read in the state s.
func (b both) comes(t *testing.T, s api.State) {
	t.Helper()
	for _, w := range b.model.copied().waits {
		if w.Kind == getM {
			s = own
		}
		b.take(t, toData(w.From, w.Block, s, filled(w.Block)))
	}
}

// P17.1 to P17.4, P17.7: each row of five steps.
func TestRows(t *testing.T) {
	for row := range 9 * 9 * 9 * 9 * 9 {
		b := made(t, tiny, 1)
		for left := row; left > 0; left /= 9 {
			short[left%9](t, b)
		}
		b.ask(t, 2, true)
		if b.like(t); t.Failed() {
			t.Fatal("row", row)
		}
	}
}

// mixed is a row of numbers that are as good as picked at random; the same ones each time.
func mixed(m uint32) func(below int) int {
	return func(below int) int {
		m = m*1664525 + 1013904223
		return int(m>>8) % below
	}
}

// do does something to both.
func (b both) do(t *testing.T, pick func(below int) int) {
	t.Helper()
	block := pick(min(b.model.data(), 2*b.model.c.Sets*b.model.c.Ways+2))
	stamp := stamps[pick(len(stamps))]
	switch pick(16) {
	case 0, 1, 2, 3:
		b.ask(t, block, pick(2) == 0)
	case 4, 5, 6:
		b.comes(t, api.State(1+pick(2)))
	case 7:
		b.load(t, block, pick(18)-1)
	case 8, 9:
		b.store(t, block, pick(18)-1, uint32(pick(1<<20)))
	case 10:
		b.take(t, tells([]uint8{down, inv}[pick(2)], b.model.core, block, stamp))
	case 11:
		b.take(t, toPutAck(b.model.core, block))
	case 12:
		b.take(t, tells(nack, b.model.core, block, stamp))
	case 13:
		b.begin(stamp)
	case 14:
		[]func(){b.end, b.over, b.clear, func() { b.fail(uint32(pick(3))) }}[pick(4)]()
	default:
		b.take(t, api.Note{
			Kind: uint8(pick(13)), From: pick(3) - 1, To: pick(b.model.c.Cores+2) - 1, Block: pick(b.model.data()+2) - 1,
			Stamp: uint64(pick(2)), State: api.State(pick(5)), Has: pick(2) == 0, Stick: pick(4) == 0,
		})
	}
}

// P17.1 to P17.4, P17.7, R2: whatever is done, to nears and to copies of them, they are as they should be.
func TestRuns(t *testing.T) {
	for i, p := range plans {
		for seed := range 4 {
			pick := mixed(uint32(100*i + seed))
			l := []both{made(t, p.c, pick(p.c.Cores))}
			for n := range 1500 {
				b := l[pick(len(l))]
				if b.do(t, pick); t.Failed() {
					t.Fatal("run", i, seed, n)
				}
				if n%400 == 399 {
					l = append(l, b.copied())
				}
				if n%50 != 49 {
					continue
				}
				for _, b := range l {
					b.like(t)
					b.likeInside(t)
				}
			}
		}
	}
}

// R5: two nears to which the same is done answer the same.
func TestTheSameAgain(t *testing.T) {
	for seed := range 8 {
		pick, other := mixed(uint32(seed)), made(t, two, 2)
		a, c := made(t, two, 1), made(t, two, 1)
		for n := range 400 {
			m := uint32(pick(1 << 20))
			a.do(t, mixed(m))
			other.do(t, pick)
			c.do(t, mixed(m))
			x, is := a.near.Waits()
			y, is2 := c.near.Waits()
			if sameBlocks(t, a.near, c.near); x != y || is != is2 || t.Failed() {
				t.Fatal(seed, n, x, y)
			}
		}
	}
}

// The chapter's table.
func TestExamples(t *testing.T) {
	k, e := near.New(tiny, 0)
	if e != api.OK {
		t.Fatal(e)
	}
	asked := func(block int, write bool, want ...api.Note) {
		t.Helper()
		if ready, out, e := k.Ask(block, write); ready || !slices.Equal(out, want) || e != api.OK {
			t.Error("Ask", block, write, ready, out, e)
		}
	}
	taken := func(n api.Note, want ...api.Note) {
		t.Helper()
		if out, gives, e := k.Take(n); !slices.Equal(out, want) || gives || e != api.OK {
			t.Error("Take", n, out, gives, e)
		}
	}
	asked(3, true, asks(getM, 0, 3, 0))
	taken(toData(0, 3, own, api.Block{}), saysDone(0, 3))
	if old, e := k.Store(3, 0, 7); old != 0 || e != api.OK {
		t.Error("Store", old, e)
	}
	asked(5, false, puts(0, 3, api.Block{7}, false), asks(getS, 0, 5, 0))
	taken(toData(0, 5, shared, api.Block{}), saysDone(0, 5))
	if ready, out, e := k.Ask(3, false); ready || len(out) > 0 || e != api.ErrBusy {
		t.Error("Ask", ready, out, e)
	}
	taken(tells(inv, 0, 3, 0), acksWith(0, 3, api.Block{7}))
	taken(toPutAck(0, 3))
	asked(3, false, asks(getS, 0, 3, 0))
}
