package home_test

import (
	"slices"
	"testing"

	"undertow/api"
	"undertow/home"
)

// draws answers numbers that look mixed, each from 0 on and below n; the same for the same seed.
func draws(seed int) func(n int) int {
	m := uint32(seed)*2654435761 + 1
	return func(n int) int {
		m = m*1664525 + 1013904223
		return int(m>>8) % n
	}
}

// someNote is one that may come, or not: answers of those who were asked, asks, answers of nobody, and wild ones.
func (b both) someNote(draw func(int) int) api.Note {
	core, block := draw(b.model.cores), draw(min(b.model.data, 3))
	stamp := uint64(draw(4))
	switch draw(12) {
	case 0, 1, 2, 3, 4:
		if len(b.model.under) > 0 {
			u := b.model.under[draw(len(b.model.under))]
			if core, block = u.ask.From, u.ask.Block; u.answered {
				return saysDone(core, block)
			}
			return answerOf(u.asked[draw(len(u.asked))], block, draw)
		}
	case 5:
		return answerOf(core, block, draw)
	case 6:
		return saysDone(core, block)
	case 7:
		return api.Note{
			Kind: uint8(draw(13)), From: draw(b.model.cores+2) - 1, To: draw(3) - 2, Block: draw(b.model.data+3) - 1,
			Stamp: uint64(draw(2)), State: api.State(draw(3) / 2), Has: draw(2) == 0, Stick: draw(3) == 0,
		}
	case 8:
		return puts(core, block, filled(draw(1000)), draw(2) == 0)
	}
	return asks([]uint8{getS, getM}[draw(2)], core, block, stamp)
}

func answerOf(core, block int, draw func(int) int) api.Note {
	switch draw(4) {
	case 0:
		return refuses(core, block, uint64(draw(5)))
	case 1:
		return acksWith(core, block, filled(draw(1000)))
	}
	return acks(core, block)
}

// P11.2, P11.3, R2, R5: whatever notes come, homes and their copies tell what the chapter's words say; what is refused changes nothing.
func TestRuns(t *testing.T) {
	for i, p := range plans {
		for seed := range 6 {
			draw := draws(100*i + seed)
			l := []both{made(t, p.c)}
			for range 1500 {
				b := l[draw(len(l))]
				b.send(t, b.someNote(draw))
				if draw(60) == 0 {
					if len(l) == 3 {
						l = slices.Delete(l, 1, 2)
					}
					l = append(l, b.copy(t))
				}
				if draw(10) == 0 {
					for _, b := range l {
						b.like(t)
					}
				}
				if t.Failed() {
					t.Fatal(p, seed)
				}
			}
		}
	}
}

// R5: two homes that were told the same answer the same.
func TestTwins(t *testing.T) {
	for seed := range 10 {
		draw := draws(seed)
		one, other := made(t, four), made(t, four)
		for range 500 {
			n := one.someNote(draw)
			out, e := one.home.Take(n)
			out2, e2 := other.home.Take(n)
			one.model.take(n)
			if !slices.Equal(out, out2) || e != e2 || one.home.Waits() != other.home.Waits() {
				t.Fatal(seed, n, out, e, out2, e2)
			}
		}
	}
}

// turn is an ask that came, or the answer to it, of a block.
type turn struct {
	core int
	back bool // a block that goes back
}

// world is a home, and cores that answer what they are told, sooner or later; notes arrive in any order.
type world struct {
	home           *home.Home
	draw           func(int) int
	cores, blocks  int
	onTheirWay     []api.Note
	came, answered [][]turn // by block
	gave           [][]int  // by block: who said since the last answer that it has it no more, or not alone
}

func newWorld(t *testing.T, c api.Config, seed int) *world {
	t.Helper()
	b := made(t, c)
	blocks := min(b.model.data, 3)
	return &world{
		home: b.home, draw: draws(seed), cores: c.Cores, blocks: blocks,
		came: make([][]turn, blocks), answered: make([][]turn, blocks), gave: make([][]int, blocks),
	}
}

// ask lets some core ask for some block, or send it back.
func (w *world) ask() {
	core, block := w.draw(w.cores), w.draw(w.blocks)
	n := asks([]uint8{getS, getM}[w.draw(2)], core, block, uint64(w.draw(9)))
	if w.draw(4) == 0 {
		n = puts(core, block, filled(w.draw(100)), w.draw(2) == 0)
	}
	w.onTheirWay = append(w.onTheirWay, n)
}

// arrive lets some note arrive, if who it is to is ready for it.
func (w *world) arrive(t *testing.T) {
	t.Helper()
	i := w.draw(len(w.onTheirWay))
	n := w.onTheirWay[i]
	if n.To == -1 && w.home.Ready(n) == api.ErrBusy {
		return
	}
	w.onTheirWay = slices.Delete(w.onTheirWay, i, i+1)
	switch {
	case n.To == -1:
		w.arriveHome(t, n)
	case n.Kind == down || n.Kind == inv:
		w.onTheirWay = append(w.onTheirWay, answerOf(n.To, n.Block, w.draw))
	case n.Kind == data:
		w.onTheirWay = append(w.onTheirWay, saysDone(n.To, n.Block))
	}
}

func (w *world) entries(t *testing.T) []api.Entry {
	t.Helper()
	var l []api.Entry
	for block := range w.blocks {
		e, err := w.home.Entry(block)
		if err != api.OK {
			t.Error(block, err)
		}
		l = append(l, e)
	}
	return l
}

func (w *world) arriveHome(t *testing.T, n api.Note) {
	t.Helper()
	before := w.entries(t)
	out, e := w.home.Take(n)
	if e != api.OK {
		t.Error("Take", n, e)
	}
	w.onTheirWay = append(w.onTheirWay, out...)
	switch n.Kind {
	case getS, getM, put:
		w.came[n.Block] = append(w.came[n.Block], turn{n.From, n.Kind == put})
	case ack:
		w.gave[n.Block] = append(w.gave[n.Block], n.From)
	}
	w.follow(t, n.Block, before, out)
}

// follow holds what went out, all about one block, against what came, and against what was known ahead of it.
func (w *world) follow(t *testing.T, block int, before []api.Entry, out []api.Note) {
	t.Helper()
	mayChange := false
	for _, n := range out {
		if n.From != -1 || n.Block != block {
			t.Error(n)
		}
		owner := before[block].Owner
		if n.Kind == data && !mayChange && owner != -1 && owner != n.To && !slices.Contains(w.gave[block], owner) {
			t.Error(n, "without the answer of", owner)
		}
		switch n.Kind {
		case data, nack, putAck:
			w.answered[block] = append(w.answered[block], turn{n.To, n.Kind == putAck})
			w.gave[block] = nil
			mayChange = mayChange || n.Kind != nack
		}
	}
	for other, e := range w.entries(t) {
		if e != before[other] && (other != block || !mayChange) {
			t.Error(out, "changes", other, before[other], e)
		}
	}
	if many := len(w.answered[block]); many > len(w.came[block]) || !slices.Equal(w.answered[block], w.came[block][:many]) {
		t.Fatal(block, w.answered[block], "is not in the order of", w.came[block])
	}
}

// P11.4, P11.5: if all answer, each ask is answered once, block by block in the order in which they came; entries change by answers alone, and an owner is asked first.
func TestAllAnswered(t *testing.T) {
	for i, p := range plans {
		for seed := range 8 {
			w := newWorld(t, p.c, 1000*i+seed)
			for range 1500 {
				if len(w.onTheirWay) == 0 || w.draw(3) == 0 && len(w.onTheirWay) < 3*p.room {
					w.ask()
				}
				w.arrive(t)
			}
			for steps := 0; len(w.onTheirWay) > 0; steps++ {
				if w.arrive(t); steps > 1000000 {
					t.Fatal("some never arrive", w.onTheirWay)
				}
			}
			for block := range w.blocks {
				if !slices.Equal(w.came[block], w.answered[block]) || len(w.came[block]) < 20 || w.home.Busy(block) {
					t.Fatal(p, seed, block, len(w.came[block]), len(w.answered[block]))
				}
			}
			if w.home.Waits() != 0 || t.Failed() {
				t.Fatal(p, seed, w.home.Waits())
			}
		}
	}
}
