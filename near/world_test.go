package near_test

import (
	"maps"
	"slices"
	"testing"

	"undertow/api"
	"undertow/home"
	"undertow/mem"
	"undertow/near"
	"undertow/net"
)

// step is a word that a core loads, or stores.
type step struct {
	block, word int
	write       bool
}

// wrote is a word that a transaction wrote, and what was there.
type wrote struct {
	step
	old uint32
}

// user is a core that has a near: it does step by step what it wants to, in transactions and outside of them.
type user struct {
	near    *near.Near
	steps   []step // what its transaction does still, or the one step that it does outside of one
	inside  bool   // it is in a transaction
	log     []wrote
	marks   map[int]marked    // by block, what its transaction did
	last    map[int]api.Block // by block, what NtData brought, and it stored
	commits int
	undone  int
}

// world is users, a home, and notes on their way between them that arrive in any order.
type world struct {
	t     *testing.T
	c     api.Config
	used  int // blocks that are used, from 0 on
	pick  func(below int) int
	users []*user
	home  *home.Home
	mem   *mem.Mem
	way   *net.Net
	now   []api.Block // by block, what was stored last
	stamp uint64
	seen  map[uint8]int // how often which kind of note went out of a near, and of those that stick
	stick int
}

func newWorld(t *testing.T, c api.Config, seed int) *world {
	t.Helper()
	m, _ := mem.New(c.Blocks)
	h, _ := home.New(c, m)
	way, e := net.New(c, 1000)
	if e != api.OK {
		t.Fatal(e)
	}
	used := min(c.Blocks-c.Cores*c.Logs, c.Sets*c.Ways+2)
	w := &world{t: t, c: c, used: used, pick: mixed(uint32(seed)), home: h, mem: m, way: way, now: make([]api.Block, c.Blocks), seen: map[uint8]int{}}
	for core := range c.Cores {
		w.users = append(w.users, &user{near: made(t, c, core).near, marks: map[int]marked{}, last: map[int]api.Block{}})
	}
	return w
}

// someSteps are a few steps on the first blocks.
func (w *world) someSteps(many int) []step {
	var l []step
	for range many {
		l = append(l, step{w.pick(w.used), w.pick(2), w.pick(2) == 0})
	}
	return l
}

// acts lets a user do what it does next, if it waits for nothing.
func (w *world) acts(u *user) {
	if _, waits := u.near.Waits(); waits {
		return
	}
	d := u.near.Deal()
	switch {
	case d.Failing():
		w.undoes(u)
	case len(u.steps) > 0:
		w.does(u)
	case u.inside:
		if commits, e := d.End(); !commits || e != api.OK {
			w.t.Error("End", commits, e)
		}
		u.commits++
		w.leaves(u)
	case w.pick(4) == 0:
		u.steps = w.someSteps(1)
	default:
		w.stamp++
		if e := d.Begin(save(1), w.stamp); e != api.OK {
			w.t.Error("Begin", e)
		}
		u.inside, u.steps = true, w.someSteps(1+w.pick(5))
	}
}

// leaves lets a user be in no transaction.
func (w *world) leaves(u *user) {
	u.near.Clear()
	u.inside, u.log = false, nil
	clear(u.marks)
}

// undoes puts back the last word that a failing transaction wrote; if there is none, that is over.
func (w *world) undoes(u *user) {
	if len(u.log) == 0 {
		u.near.Deal().Over()
		w.leaves(u)
		u.steps, u.undone = nil, u.undone+1
		return
	}
	last := u.log[len(u.log)-1]
	if w.ready(u, last.block, true) {
		w.stores(u, last.step, last.old)
		u.log = u.log[:len(u.log)-1]
	}
}

// ready asks for a block; what goes out is on its way.
func (w *world) ready(u *user, block int, write bool) bool {
	ready, out, e := u.near.Ask(block, write)
	if e != api.OK && e != api.ErrBusy {
		w.t.Error("Ask", block, write, e)
	}
	w.send(u, out)
	return ready
}

// does does the next step of a user, if its block is ready.
func (w *world) does(u *user) {
	s := u.steps[0]
	if !w.ready(u, s.block, s.write) {
		return
	}
	u.steps = u.steps[1:]
	for _, other := range w.users {
		if other != u && (other.marks[s.block].wrote || s.write && other.marks[s.block].read) {
			w.t.Error(s, "is used by a transaction of another one")
		}
	}
	m := u.marks[s.block]
	if s.write {
		m.wrote = true
		old := w.stores(u, s, uint32(w.pick(1<<20)))
		u.log = append(u.log, wrote{s, old})
	} else {
		m.read = true
		if x, e := u.near.Load(s.block, s.word); x != w.now[s.block][s.word] || e != api.OK {
			w.t.Error("Load", s, x, e, "not", w.now[s.block][s.word])
		}
	}
	if u.inside {
		u.marks[s.block] = m
	} else {
		u.log = nil
	}
}

// stores stores x, and tells what was there.
func (w *world) stores(u *user, s step, x uint32) uint32 {
	old, e := u.near.Store(s.block, s.word, x)
	if want := w.now[s.block][s.word]; old != want || e != api.OK {
		w.t.Error("Store", s, old, e, "not", want)
	}
	w.now[s.block][s.word] = x
	d := u.last[s.block]
	d[s.word] = x
	u.last[s.block] = d
	return old
}

// send lets what goes out of a near be on its way, and holds it against what may.
func (w *world) send(u *user, out []api.Note) {
	for _, n := range out {
		w.seen[n.Kind]++
		if n.Has && n.Data != u.last[n.Block] {
			w.t.Error(n, "is not what the core had last", u.last[n.Block])
		}
		if u.marks[n.Block].wrote && n.Has && (n.Kind != put || !n.Stick) {
			w.t.Error(n, "tells what a transaction wrote")
		}
		if n.Stick {
			w.stick++
		}
		if e := w.way.Send(n); e != api.OK {
			w.t.Error("Send", n, e)
		}
	}
}

// arrives lets some note arrive.
func (w *world) arrives() {
	if w.way.Len() == 0 {
		return
	}
	n, _ := w.way.Take(w.pick(w.way.Len()))
	if n.To == api.Home {
		out, e := w.home.Take(n)
		if e != api.OK {
			w.t.Error("the home's Take", n, e)
		}
		for _, n := range out {
			w.way.Send(n)
		}
		return
	}
	w.hears(w.users[n.To], n)
}

// hears lets a note arrive at a user. What comes is used at once: else it might be gone again ahead of that, each time.
func (w *world) hears(u *user, n api.Note) {
	out, gives, e := u.near.Take(n)
	if e != api.OK {
		w.t.Error("Take", n, e)
	}
	if m := u.marks[n.Block]; n.Kind == inv && (m.read || m.wrote) || n.Kind == down && m.wrote {
		if len(out) != 1 || out[0].Kind != refuse {
			w.t.Error(n, "is not refused:", out)
		}
	}
	if n.Kind == data {
		u.last[n.Block] = n.Data
	}
	if gives {
		if n.Kind != nack {
			w.t.Error(n, "lets it give way")
		}
		u.near.Deal().Fail(api.CauseConflict)
	}
	w.send(u, out)
	if n.Kind == data {
		w.acts(u)
	}
}

// follow holds what all nears have against each other.
func (w *world) follow() {
	for block := range w.used {
		var lines []api.Line
		for _, u := range w.users {
			l, is := u.near.Line(block)
			if is {
				lines = append(lines, l)
			}
			if _, _, goes := u.near.Back(block); is && goes {
				w.t.Error(block, "is in the cache, and among the backs")
			}
			m := u.marks[block]
			if read, wrote := u.near.Marked(block); read != m.read || wrote != m.wrote {
				w.t.Error("Marked", block, read, wrote, m)
			}
		}
		for _, l := range lines {
			if l.State != shared && len(lines) > 1 {
				w.t.Error("not alone", lines)
			}
			if l.Data != w.now[block] {
				w.t.Error("not as it is", l, w.now[block])
			}
		}
	}
}

// ends lets all that is begun end.
func (w *world) ends() {
	for range 1000000 {
		busy := w.way.Len() > 0
		for _, u := range w.users {
			if u.inside || len(u.steps) > 0 {
				busy = true
				w.acts(u)
			}
		}
		if !busy {
			return
		}
		w.arrives()
	}
	w.t.Fatal("it does not end")
}

// P17.5, P17.6, P17.7: nears that have a home, whatever happens, tell what they had last; what a transaction has read or written is kept from others until it ends, and nobody sees what is undone.
func TestWorld(t *testing.T) {
	kinds := map[uint8]int{}
	stick, undone := 0, 0
	for i, p := range plans {
		for seed := range 12 {
			w := newWorld(t, p.c, 1000*i+seed)
			for range 3000 {
				if w.pick(3) == 0 {
					w.acts(w.users[w.pick(len(w.users))])
				} else {
					w.arrives()
				}
				if w.follow(); t.Failed() {
					t.Fatal(p, seed)
				}
			}
			w.ends()
			w.follow()
			commits := 0
			for _, u := range w.users {
				commits, undone = commits+u.commits, undone+u.undone
			}
			if commits < 20 || t.Failed() {
				t.Fatal(p, seed, commits)
			}
			for kind, many := range w.seen {
				kinds[kind] += many
			}
			stick += w.stick
			w.backHome()
		}
	}
	if stick < 1000 || undone < 100 {
		t.Error("stick", stick, "undone", undone)
	}
	if want := []uint8{getS, getM, put, ack, refuse, done}; !slices.Equal(slices.Sorted(maps.Keys(kinds)), want) {
		t.Error(kinds)
	}
}

// backHome holds the memory against what was stored last, where no core owns the block.
func (w *world) backHome() {
	for block := range w.used {
		known, _ := w.home.Entry(block)
		if known.Owner >= 0 {
			if _, has := w.users[known.Owner].near.Line(block); has {
				continue
			}
		}
		if b, _ := w.mem.Block(block); b != w.now[block] {
			w.t.Error("memory", block, b, w.now[block])
		}
	}
}
