package near_test

import (
	"math"
	"slices"
	"testing"

	"undertow/api"
	"undertow/near"
	"undertow/note"
)

// P17.4: what is answered, and what becomes of the line, of each state; nothing is marked.
func TestAsked(t *testing.T) {
	for _, p := range plans {
		for _, stamp := range stamps {
			for _, s := range []api.State{0, shared, alone, own} {
				core, block := p.c.Cores-1, p.data-1
				for _, kind := range []uint8{down, inv} {
					b := made(t, p.c, core)
					if s != 0 {
						b.get(t, block, s)
					}
					b.begin(9)
					want := acks(core, block)
					if s > shared {
						want = acksWith(core, block, filled(block))
					}
					if a := b.take(t, tells(kind, core, block, stamp)); !a.like(answer{out: []api.Note{want}}) {
						t.Error(p, stamp, s, kind, a)
					}
					b.like(t)
					l, is := b.near.Line(block)
					if stays := kind == down && s != 0; is != stays || is && l != (api.Line{Block: block, State: shared, Data: filled(block)}) {
						t.Error("Line", p, stamp, s, kind, l, is)
					}
					if b.near.Deal().Flag() {
						t.Error("Flag", p, stamp, s, kind)
					}
				}
			}
		}
	}
}

// P17.4: data is told whole, whichever of its words are 0; that it is told is said by Has.
func TestAskedWhole(t *testing.T) {
	shapes := []api.Block{{}, filled(1), {0: 1}, {15: 1}, {0: math.MaxUint32, 15: 1 << 31}}
	for _, d := range shapes {
		for _, kind := range []uint8{down, inv} {
			b := made(t, tiny, 0)
			b.ask(t, 2, true)
			b.take(t, toData(0, 2, own, d))
			if a := b.take(t, tells(kind, 0, 2, 3)); !a.like(answer{out: []api.Note{acksWith(0, 2, d)}}) {
				t.Error(d, kind, a)
			}
			b = made(t, tiny, 0)
			b.ask(t, 2, false)
			b.take(t, toData(0, 2, alone, d))
			if a := b.ask(t, 3, false); len(a.out) != 2 || a.out[0] != puts(0, 2, d, false) {
				t.Error(d, kind, a)
			}
			if a := b.take(t, tells(kind, 0, 2, 3)); !a.like(answer{out: []api.Note{acksWith(0, 2, d)}}) {
				t.Error(d, kind, a)
			}
		}
	}
}

// P17.4: a back tells its data once, and is there still, until it is back; it is asked about its own block alone.
func TestAskedOfABack(t *testing.T) {
	for _, first := range []uint8{down, inv} {
		for _, second := range []uint8{down, inv} {
			b := made(t, two, 2)
			b.get(t, 2, own)
			b.store(t, 2, 3, 4)
			b.get(t, 4, alone)
			b.ask(t, 6, false)
			want := filled(2)
			want[3] = 4
			for i, kind := range []uint8{first, second, first} {
				out := acks(2, 2)
				if i == 0 {
					out = acksWith(2, 2, want)
				}
				if a := b.take(t, tells(kind, 2, 2, 3)); !a.like(answer{out: []api.Note{out}}) {
					t.Error(first, second, i, a)
				}
				if d, live, is := b.near.Back(2); d != want || live || !is {
					t.Error("Back", first, second, i, d, live, is)
				}
				b.like(t)
			}
			if d, live, is := b.near.Back(4); d != filled(4) || !live || !is {
				t.Error("Back", first, second, d, live, is)
			}
			b.take(t, toPutAck(2, 2))
			if a := b.take(t, tells(first, 2, 2, 3)); !a.like(answer{out: []api.Note{acks(2, 2)}}) {
				t.Error(first, second, a)
			}
			b.like(t)
		}
	}
}

// sameBlocks tells whether two nears have the same lines, backs and marks.
func sameBlocks(t *testing.T, a, b *near.Near) {
	t.Helper()
	for block := range 256 {
		l, is := a.Line(block)
		if l2, is2 := b.Line(block); l != l2 || is != is2 {
			t.Error("Line", block, l, is, l2, is2)
		}
		d, live, is := a.Back(block)
		if d2, live2, is2 := b.Back(block); d != d2 || live != live2 || is != is2 {
			t.Error("Back", block, d, live, is, d2, live2, is2)
		}
		read, wrote := a.Marked(block)
		if read2, wrote2 := b.Marked(block); read != read2 || wrote != wrote2 {
			t.Error("Marked", block, read, wrote, read2, wrote2)
		}
	}
}

// P17.4, P17.5: what meets the marks of an open transaction is refused, failing or not; nothing but the flag changes, wherever the block is.
func TestRefuses(t *testing.T) {
	for _, marks := range []marked{{}, {true, false}, {false, true}, {true, true}} {
		for _, kind := range []uint8{down, inv} {
			for _, failing := range yesAndNo {
				for _, gone := range yesAndNo {
					for _, stamp := range stamps {
						b := made(t, tiny, 1)
						b.get(t, 3, own)
						b.use(t, 3, marks.read, marks.wrote)
						b.begin(9)
						if failing {
							b.fail(3)
						}
						if gone {
							b.ask(t, 5, false)
						}
						if !marks.wrote && (kind == down || !marks.read) {
							if a := b.take(t, tells(kind, 1, 3, stamp)); len(a.out) != 1 || a.out[0] != acksWith(1, 3, filled(3)) {
								t.Error(marks, kind, failing, gone, stamp, a)
							}
							continue
						}
						before := b.copied()
						if a := b.take(t, tells(kind, 1, 3, stamp)); !a.like(answer{out: []api.Note{refuses(1, 3, 9)}}) {
							t.Error(marks, kind, failing, gone, stamp, a)
						}
						if is := b.near.Deal().Flag(); is != (stamp > 0 && stamp < 9) {
							t.Error("Flag", marks, kind, failing, gone, stamp, is)
						}
						b.like(t)
						b.likeInside(t)
						sameBlocks(t, b.near, before.near)
					}
				}
			}
		}
	}
}

// P17.4: what is marked is told nevertheless, where no transaction is open, even if a stamp is kept.
func TestMarkedWithoutTransaction(t *testing.T) {
	for _, kind := range []uint8{down, inv} {
		for _, stamp := range stamps {
			b := made(t, tiny, 0)
			b.get(t, 3, own)
			b.begin(9)
			b.load(t, 3, 0)
			b.store(t, 3, 0, 6)
			b.fail(1)
			b.over()
			want := filled(3)
			want[0] = 6
			if a := b.take(t, tells(kind, 0, 3, stamp)); !a.like(answer{out: []api.Note{acksWith(0, 3, want)}}) {
				t.Error(kind, stamp, a)
			}
			b.like(t)
			if b.near.Deal().Flag() {
				t.Error("Flag", kind, stamp)
			}
		}
	}
}

// P17.4: a refusal has the stamp of the transaction, which may be one that it kept.
func TestRefusesByTheStampItKept(t *testing.T) {
	b := made(t, tiny, 0)
	b.begin(4)
	b.fail(1)
	b.over()
	b.begin(90)
	b.get(t, 3, own)
	b.load(t, 3, 0)
	if a := b.take(t, tells(inv, 0, 3, 7)); !a.like(answer{out: []api.Note{refuses(0, 3, 4)}}) {
		t.Error(a)
	}
	if b.near.Deal().Flag() {
		t.Error("7 is no older than 4")
	}
	if a := b.take(t, tells(inv, 0, 3, 3)); !a.like(answer{out: []api.Note{refuses(0, 3, 4)}}) || !b.near.Deal().Flag() {
		t.Error(a, b.near.Deal().Flag())
	}
	b.like(t)
}

// waiting is a near of two that waits for a block: by kind getS or getM; by 0 it waits for nothing.
func waiting(t *testing.T, kind uint8, block int, stamp uint64) both {
	t.Helper()
	b := made(t, two, 1)
	b.begin(stamp)
	if kind != 0 {
		b.ask(t, block, kind == getM)
	}
	return b
}

// P17.4: NtData is taken in the state that fits the ask, about the block that it waits for; else nothing changes.
func TestData(t *testing.T) {
	for _, kind := range []uint8{0, getS, getM} {
		for _, s := range []api.State{shared, alone, own} {
			for _, block := range []int{4, 6, 5} {
				b := waiting(t, kind, 4, 3)
				fits := block == 4 && (kind == getS && s != own || kind == getM && s == own)
				want := answer{e: api.ErrState}
				if fits {
					want = answer{out: []api.Note{saysDone(1, block)}}
				}
				if a := b.take(t, toData(1, block, s, filled(9))); !a.like(want) {
					t.Error(kind, s, block, a)
				}
				b.like(t)
				l, is := b.near.Line(block)
				if is != fits || fits && l != (api.Line{Block: 4, State: s, Data: filled(9)}) {
					t.Error("Line", kind, s, block, l, is)
				}
				if _, waits := b.near.Waits(); waits != (kind != 0 && !fits) {
					t.Error("Waits", kind, s, block, waits)
				}
				// It comes once.
				if a := b.take(t, toData(1, block, s, filled(9))); fits && a.e != api.ErrState {
					t.Error(kind, s, block, a)
				}
			}
		}
	}
}

// P17.4: what it had to read is replaced by what comes, also if that went meanwhile.
func TestDataOverALine(t *testing.T) {
	for _, gone := range yesAndNo {
		b := made(t, tiny, 1)
		b.get(t, 4, shared)
		b.ask(t, 4, true)
		if gone {
			b.take(t, tells(inv, 1, 4, 0))
		}
		b.take(t, toData(1, 4, own, filled(8)))
		if l, is := b.near.Line(4); !is || l != (api.Line{Block: 4, State: own, Data: filled(8)}) {
			t.Error("Line", gone, l, is)
		}
		b.like(t)
	}
}

// P17.4: NtNack ends the waiting, and tells whether the transaction gives way: if its flag is up, and who refused is older.
func TestNack(t *testing.T) {
	for _, kind := range []uint8{0, getS, getM} {
		for _, block := range []int{4, 6} {
			for _, flag := range yesAndNo {
				for _, stamp := range stamps {
					b := waiting(t, kind, 4, 9)
					if flag {
						b.flag()
					}
					fits := kind != 0 && block == 4
					want := answer{e: api.ErrState}
					if fits {
						want = answer{yes: flag && stamp > 0 && stamp < 9}
					}
					if a := b.take(t, tells(nack, 1, block, stamp)); !a.like(want) {
						t.Error(kind, block, flag, stamp, a)
					}
					b.like(t)
					if _, waits := b.near.Waits(); waits != (kind != 0 && !fits) {
						t.Error("Waits", kind, block, flag, stamp, waits)
					}
					if d := b.near.Deal(); d.Depth() != 1 || d.Failing() || d.Flag() != flag {
						t.Error("Deal", d)
					}
				}
			}
		}
	}
}

// P17.4: no transaction gives way that is not open, or failing already.
func TestNackOfNone(t *testing.T) {
	for _, into := range []func(b both){
		func(b both) { b.end() },
		func(b both) { b.fail(1) },
		func(b both) { b.fail(1); b.over() },
	} {
		b := waiting(t, getM, 4, 9)
		b.flag()
		into(b)
		if a := b.take(t, tells(nack, 1, 4, 3)); !a.like(answer{}) {
			t.Error(a)
		}
		b.like(t)
	}
}

// P17.4: what it had to read it has still, where it does not get it to write.
func TestNackKeepsTheLine(t *testing.T) {
	b := made(t, tiny, 1)
	b.get(t, 4, shared)
	b.ask(t, 4, true)
	b.take(t, tells(nack, 1, 4, 3))
	if l, is := b.near.Line(4); !is || l != (api.Line{Block: 4, State: shared, Data: filled(4)}) {
		t.Error("Line", l, is)
	}
	b.like(t)
}

// P17.4: a back is gone, dead or live, by NtPutAck about it, whatever the core waits for.
func TestPutAck(t *testing.T) {
	for _, dead := range yesAndNo {
		for _, waits := range yesAndNo {
			b := made(t, two, 1)
			b.get(t, 2, own)
			b.get(t, 4, own)
			b.ask(t, 6, false)
			if !waits {
				b.take(t, tells(nack, 1, 6, 0))
			}
			if dead {
				b.take(t, tells(inv, 1, 2, 0))
			}
			for _, block := range []int{0, 1, 3, 5, 6, 11} {
				if a := b.take(t, toPutAck(1, block)); !a.like(answer{e: api.ErrState}) {
					t.Error(dead, waits, block, a)
				}
			}
			b.like(t)
			if a := b.take(t, toPutAck(1, 2)); !a.like(answer{}) {
				t.Error(dead, waits, a)
			}
			b.like(t)
			if a := b.take(t, toPutAck(1, 2)); !a.like(answer{e: api.ErrState}) {
				t.Error(dead, waits, a)
			}
			if _, _, is := b.near.Back(4); !is {
				t.Error("the other one is gone, too")
			}
		}
	}
}

// strange are notes that a near of the plan two is not told, but for those to the core 1.
func strange() []api.Note {
	var l []api.Note
	for kind := range 14 {
		for _, n := range []api.Note{
			{}, {Has: true, Data: filled(1)}, {State: own}, {State: shared, Has: true}, {State: 4, Has: true}, {State: own, Has: true, Data: filled(2)},
			{Stamp: 3}, {Stick: true}, {Data: filled(3)}, {Stamp: 3, Stick: true, Has: true, State: own},
		} {
			for _, ends := range [][2]int{{-1, 1}, {1, -1}, {-1, 0}, {-1, 2}, {-1, 3}, {-1, 16}, {0, 1}, {1, 1}, {-1, -1}, {2, 1}, {-2, 1}, {17, 1}, {-1, 1 + 1<<8}, {-1, 1 + 1<<32}} {
				for _, block := range []int{2, 4, 6, 11, 12, 14, 15, -1, 256, 4 + 1<<8, 6 + 1<<32, math.MinInt, math.MaxInt} {
					n.Kind, n.From, n.To, n.Block = uint8(kind), ends[0], ends[1], block
					l = append(l, n)
				}
			}
		}
	}
	return append(l, api.Note{Kind: 255, From: -1, To: 1, Block: 4}, api.Note{Kind: 128 + down, From: -1, To: 1, Block: 4})
}

// P17.4, R2: what does not fit the plan, or is not to the core, is told ahead of all else; nothing changes.
func TestTakeOfStrange(t *testing.T) {
	b := made(t, two, 1)
	b.get(t, 2, own)
	b.get(t, 4, own)
	b.begin(7)
	b.load(t, 4, 0)
	b.ask(t, 6, true)
	before, many := b.copied(), 0
	for _, n := range strange() {
		if note.May(n) == api.OK && n.To == 1 && n.Block < 12 {
			continue
		}
		many++
		if a := b.take(t, n); !a.like(answer{e: api.ErrArg}) {
			t.Error(n, a)
		}
	}
	b.like(t)
	sameBlocks(t, b.near, before.near)
	if many < 10000 {
		t.Error(many)
	}
	for _, n := range strange() {
		c := b.copied()
		if c.take(t, n); t.Failed() {
			t.Fatal(n)
		}
	}
}

// P17.4: the edges of what fits: each core's, and each data block's notes do.
func TestTakeAtTheEdges(t *testing.T) {
	for _, p := range plans {
		for _, core := range []int{0, p.c.Cores - 1} {
			b := made(t, p.c, core)
			for _, block := range []int{0, p.data - 1} {
				for _, kind := range []uint8{down, inv} {
					if a := b.take(t, tells(kind, core, block, 3)); !a.like(answer{out: []api.Note{acks(core, block)}}) {
						t.Error(p, core, block, kind, a)
					}
				}
			}
			for _, block := range []int{p.data, p.c.Blocks - 1, p.c.Blocks, -1} {
				for _, n := range []api.Note{tells(down, core, block, 3), tells(inv, core, block, 3), tells(nack, core, block, 3), toPutAck(core, block), toData(core, block, own, filled(1))} {
					if a := b.take(t, n); !a.like(answer{e: api.ErrArg}) {
						t.Error(p, n, a)
					}
				}
			}
			for other := range p.c.Cores {
				if a := b.take(t, tells(down, other, 0, 3)); (a.e == api.OK) != (other == core) {
					t.Error(p, core, other, a)
				}
			}
			b.like(t)
		}
	}
}

// R3: what went out is not changed by what is done later, and what it waits for not by who has the list.
func TestOutIsNew(t *testing.T) {
	b := made(t, tiny, 0)
	b.get(t, 3, own)
	_, out, _ := b.near.Ask(4, true)
	kept := slices.Clone(out)
	b.near.Take(tells(nack, 0, 4, 0))
	b.near.Take(toPutAck(0, 3))
	b.near.Ask(5, false)
	b.near.Take(toData(0, 5, alone, filled(5)))
	_, other, _ := b.near.Ask(6, true)
	if !slices.Equal(out, kept) || len(other) != 2 || other[0] != puts(0, 5, filled(5), false) {
		t.Error(out, kept, other)
	}
	other[1].Block = 1
	if n, _ := b.near.Waits(); n != asks(getM, 0, 6, 0) {
		t.Error("Waits", n)
	}
}
