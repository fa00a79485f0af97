package net_test

import (
	"math"
	"slices"
	"testing"

	"undertow/api"
	"undertow/net"
)

// kind is what a net asks of one: its net, and which way its notes go.
type kind struct {
	number   uint8
	net      int
	toHome   bool
	has      bool
	stateful bool
}

var kinds = []kind{
	{number: 1, net: 0, toHome: true},
	{number: 2, net: 0, toHome: true},
	{number: 3, net: 0, toHome: true, has: true},
	{number: 4, net: 1},
	{number: 5, net: 1},
	{number: 6, net: 2, has: true, stateful: true},
	{number: 7, net: 2},
	{number: 8, net: 2},
	{number: 9, net: 2, toHome: true},
	{number: 10, net: 2, toHome: true},
	{number: 11, net: 2, toHome: true},
}

// huge are numbers far from all that a net has, and such as are like small ones if upper bits were dropped.
var huge = []int{
	math.MinInt, math.MinInt + 1, math.MinInt32, math.MaxInt, math.MaxInt - 1, math.MaxInt32, math.MaxUint32,
	1 << 8, 1<<8 - 1, 1<<8 + 1, 1 << 16, 1<<16 - 1, 1<<16 + 1, 1 << 32, 1<<32 - 1, 1<<32 + 1, 1 << 62, 1<<62 + 1,
	-1 << 8, -1<<8 - 1, -1<<8 + 1, -1 << 16, -1<<16 - 1, -1 << 32, -1<<32 - 1, -1<<32 + 1, -1 << 62,
}

// small is the plan of the chapter's examples: its data blocks are 0 to 7.
var small = api.Config{Cores: 2, Sets: 2, Ways: 2, Blocks: 10, Logs: 1, Backs: 1, Nest: 1}

// great is the greatest plan: its data blocks are 0 to 239.
var great = api.Config{Cores: 16, Sets: 16, Ways: 4, Blocks: 256, Logs: 1, Backs: 4, Nest: 8, Tries: 8}

// plans are some that may be, from the least to the greatest; with how many data blocks each has.
var plans = []struct {
	c    api.Config
	data int
}{
	{api.Config{Cores: 1, Sets: 1, Ways: 1, Blocks: 2, Logs: 1, Backs: 1, Nest: 1}, 1},
	{small, 8},
	{api.Config{Cores: 3, Sets: 8, Ways: 1, Blocks: 16, Logs: 4, Backs: 2, Nest: 3, Tries: 2}, 4},
	{api.Config{Cores: 4, Sets: 1, Ways: 4, Blocks: 256, Logs: 2, Backs: 1, Nest: 1}, 248},
	{api.Config{Cores: 5, Sets: 4, Ways: 2, Blocks: 6, Logs: 1, Backs: 1, Nest: 1}, 1},
	{api.Config{Cores: 16, Sets: 1, Ways: 1, Blocks: 65, Logs: 4, Backs: 4, Nest: 1, Tries: 1}, 1},
	{great, 240},
	{api.Config{Cores: 16, Sets: 16, Ways: 4, Blocks: 256, Logs: 4, Backs: 4, Nest: 8, Tries: 8}, 192},
	{api.Config{Cores: 1, Sets: 1, Ways: 1, Blocks: 256, Logs: 1, Backs: 1, Nest: 1}, 255},
}

// between is a note of a kind between the home and a core, with what it must have and nothing else.
func between(number uint8, core, block int) api.Note {
	k := kinds[number-1]
	n := api.Note{Kind: number, From: -1, To: core, Block: block, Has: k.has}
	if k.toHome {
		n.From, n.To = core, -1
	}
	if k.stateful {
		n.State = api.StAlone
	}
	return n
}

// stamped is one of which no two with different stamps are alike.
func stamped(number uint8, core, block int, stamp uint64) api.Note {
	n := between(number, core, block)
	switch number {
	case 1, 2, 4, 5, 7, 10:
		n.Stamp = stamp
	case 3, 6:
		n.Data[0], n.Data[15] = uint32(stamp), uint32(stamp>>32)
	case 9:
		n.Has, n.Data[3], n.Data[4] = true, uint32(stamp), uint32(stamp>>32)
	}
	return n
}

// model is what the chapter's words say of a net: the notes in a row, and the hops of those that were taken.
type model struct {
	cores, data, room int
	notes             []api.Note
	hops              int
}

func (m *model) copy() *model {
	c := *m
	c.notes = slices.Clone(m.notes)
	return &c
}

// send is of notes that may be.
func (m *model) send(n api.Note) api.Errno {
	core := n.From
	if core == -1 {
		core = n.To
	}
	if core >= m.cores || n.Block >= m.data {
		return api.ErrArg
	}
	if m.left(n.To, kinds[n.Kind-1].net) == 0 {
		return api.ErrFull
	}
	m.notes = append(m.notes, n)
	return api.OK
}

func (m *model) left(node, net int) int {
	if node < -1 || node > m.cores-1 || net != 0 && net != 1 && net != 2 {
		return 0
	}
	left := m.room
	for _, n := range m.notes {
		if n.To == node && kinds[n.Kind-1].net == net {
			left--
		}
	}
	return left
}

func (m *model) take(i int) (api.Note, api.Errno) {
	if i < 0 || i >= len(m.notes) {
		return api.Note{}, api.ErrRange
	}
	n := m.notes[i]
	m.notes = slices.Concat(m.notes[:i], m.notes[i+1:])
	m.hops += hopsOf(n)
	return n, api.OK
}

// hopsOf is how far it is from a core to the home: one to the left of the core 0, from which it is so far up and to the side.
func hopsOf(n api.Note) int {
	core := n.From
	if core == -1 {
		core = n.To
	}
	return core%4 + core/4 + 1
}

// both are a net and its model.
type both struct {
	net   *net.Net
	model *model
}

func made(t *testing.T, c api.Config, data, room int) both {
	t.Helper()
	n, e := net.New(c, room)
	if n == nil || e != api.OK {
		t.Fatal("New", c, room, n, e)
	}
	return both{n, &model{cores: c.Cores, data: data, room: room}}
}

// send sends notes that may be to both.
func (b both) send(t *testing.T, notes ...api.Note) {
	t.Helper()
	for _, n := range notes {
		if e, want := b.net.Send(n), b.model.send(n); e != want {
			t.Error("Send", n, e, "not", want)
		}
	}
}

func (b both) take(t *testing.T, i int) {
	t.Helper()
	want, w := b.model.take(i)
	if n, e := b.net.Take(i); n != want || e != w {
		t.Error("Take", i, n, e, "not", want, w)
	}
}

func all(n *net.Net) []api.Note {
	var l []api.Note
	for x := range n.All() {
		l = append(l, x)
	}
	return l
}

// like tells whether all that is to be seen of the net is what the model says; what is asked changes nothing.
func (b both) like(t *testing.T) {
	t.Helper()
	for range 2 {
		if got := all(b.net); !slices.Equal(got, b.model.notes) {
			t.Error("All", got, "not", b.model.notes)
		}
	}
	if b.net.Len() != len(b.model.notes) {
		t.Error("Len", b.net.Len(), "not", len(b.model.notes))
	}
	if b.net.Hops() != b.model.hops {
		t.Error("Hops", b.net.Hops(), "not", b.model.hops)
	}
	for i, want := range b.model.notes {
		if n, e := b.net.At(i); n != want || e != api.OK {
			t.Error("At", i, n, e, "not", want)
		}
	}
	for _, i := range []int{-2, -1, len(b.model.notes), len(b.model.notes) + 1} {
		if n, e := b.net.At(i); n != (api.Note{}) || e != api.ErrRange {
			t.Error("At", i, n, e)
		}
	}
	for node := -3; node <= 18; node++ {
		for which := -2; which <= 4; which++ {
			if got, want := b.net.Room(node, which), b.model.left(node, which); got != want {
				t.Error("Room", node, which, got, "not", want)
			}
		}
	}
}

// badPlans are such as may not be: each field just past a bound, and huge; and no data block.
func badPlans() []api.Config {
	at := func(c *api.Config, i int) *int {
		return []*int{&c.Cores, &c.Sets, &c.Ways, &c.Blocks, &c.Logs, &c.Backs, &c.Nest, &c.Tries}[i]
	}
	wrong := [][]int{
		{-1, 0, 17, 18}, {-1, 0, 3, 5, 6, 12, 17, 32}, {-1, 0, 3, 5, 8}, {-1, 0, 257},
		{-1, 0, 5}, {-1, 0, 5}, {-1, 0, 9}, {-1, 9},
	}
	l := []api.Config{
		{},
		{Cores: 2, Sets: 2, Ways: 2, Blocks: 2, Logs: 1, Backs: 1, Nest: 1},
		{Cores: 2, Sets: 2, Ways: 2, Blocks: 1, Logs: 1, Backs: 1, Nest: 1},
		{Cores: 16, Sets: 2, Ways: 2, Blocks: 64, Logs: 4, Backs: 1, Nest: 1},
	}
	for i, numbers := range wrong {
		for _, x := range slices.Concat(numbers, huge) {
			if i == 3 && x > 2 && x <= 256 {
				continue
			}
			c := small
			*at(&c, i) = x
			l = append(l, c)
		}
	}
	return l
}

func refusesNew(t *testing.T, c api.Config, room int) {
	t.Helper()
	if n, e := net.New(c, room); n != nil || e != api.ErrArg {
		t.Error("New", c, room, n, e)
	}
}

// P9.1: plans that may be, with room from 1 to 1024, are nets without notes.
func TestNew(t *testing.T) {
	for _, p := range plans {
		for _, room := range []int{1, 2, 3, 17, 255, 256, 257, 1000, 1023, 1024} {
			made(t, p.c, p.data, room).like(t)
		}
	}
}

// P9.1: whatever else is asked of New is refused.
func TestNewOfWrong(t *testing.T) {
	for _, p := range plans {
		for _, room := range append([]int{0, -1, -2, -1024, -1025, 1025, 1026, 2048, 4096}, huge...) {
			if room < 1 || room > 1024 {
				refusesNew(t, p.c, room)
			}
		}
	}
	for _, c := range badPlans() {
		for _, room := range []int{1, 2, 1024, 0, 1025, -1, math.MaxInt, math.MinInt} {
			refusesNew(t, c, room)
		}
	}
}

// P9.1: what is sent is behind the others, and what it has is what was sent.
func TestSend(t *testing.T) {
	for _, p := range plans {
		b := made(t, p.c, p.data, 40)
		for i, k := range kinds {
			core, block := (5*i)%p.c.Cores, (7*i)%p.data
			b.send(t, stamped(k.number, core, block, uint64(i+1)<<33+uint64(i)))
			if got := all(b.net); len(got) != i+1 {
				t.Error("All behind", i+1, got)
			}
		}
		b.like(t)
	}
}

// P9.1: whatever a note may have stays in it.
func TestSendWhole(t *testing.T) {
	b := made(t, great, 240, 1024)
	var data api.Block
	for i := range data {
		data[i] = math.MaxUint32 - uint32(i)
	}
	for _, stamp := range []uint64{0, 1, 255, 256, 1 << 32, 1 << 63, math.MaxUint64} {
		n := between(1, 6, 5)
		n.Stamp = stamp
		b.send(t, n)
	}
	for _, s := range []api.State{1, 2, 3} {
		n := between(6, 6, 5)
		n.State, n.Data = s, data
		b.send(t, n)
	}
	for _, sticks := range []bool{false, true} {
		n := between(3, 6, 5)
		n.Stick, n.Data = sticks, data
		b.send(t, n)
	}
	for _, has := range []bool{false, true} {
		n := between(9, 6, 5)
		if n.Has = has; has {
			n.Data = data
		}
		b.send(t, n)
	}
	if b.net.Len() != 14 {
		t.Error(b.net.Len())
	}
	b.like(t)
}

// strange are notes that may not be, whatever the plan is.
func strange() []api.Note {
	l := []api.Note{
		{},
		{Kind: 0, From: 1, To: -1}, {Kind: 12, From: 1, To: -1}, {Kind: 255, From: -1, To: 1},
		{Kind: 11, From: -1, To: -1}, {Kind: 1, From: -1, To: -1}, {Kind: 4, From: -1, To: -1},
		{Kind: 11, From: 0, To: 1}, {Kind: 8, From: 1, To: 0}, {Kind: 5, From: 0, To: 0},
	}
	for _, k := range kinds {
		n := between(k.number, 1, 3)
		changed := func(set func(n *api.Note)) {
			m := n
			set(&m)
			l = append(l, m)
		}
		changed(func(n *api.Note) { n.From, n.To = n.To, n.From })
		changed(func(n *api.Note) { n.Stick, n.State = true, 1 })
		changed(func(n *api.Note) { n.State = 4 })
		changed(func(n *api.Note) { n.Has, n.Stamp = !n.Has, 1<<63 })
		changed(func(n *api.Note) { n.Has, n.Data[15] = false, 1 })
		changed(func(n *api.Note) { n.Block = -1 })
		changed(func(n *api.Note) { n.Block = 256 })
		for _, x := range slices.Concat(huge, []int{-2, -3, 16, 17}) {
			if x < 0 || x > 255 {
				changed(func(n *api.Note) { n.Block = x })
			}
			changed(func(n *api.Note) { n.From = x })
			changed(func(n *api.Note) { n.To = x })
		}
	}
	return l
}

// refuses tells that a net refuses a note, and stays as it is.
func refuses(t *testing.T, b both, n api.Note, want api.Errno) {
	t.Helper()
	l, hops := b.net.Len(), b.net.Hops()
	if e := b.net.Send(n); e != want {
		t.Error("Send", n, e, "not", want)
	}
	if b.net.Len() != l || b.net.Hops() != hops {
		t.Error("Send", n, "left", b.net.Len(), b.net.Hops())
	}
}

// P9.1: a note that may not be is refused, whether or not there is room.
func TestSendOfStrange(t *testing.T) {
	for _, p := range plans[1:] {
		b := made(t, p.c, p.data, 1)
		for _, n := range strange() {
			refuses(t, b, n, api.ErrArg)
		}
		b.like(t)
		b.fill(t)
		for _, n := range strange() {
			refuses(t, b, n, api.ErrArg)
		}
		b.like(t)
	}
}

// ends are a kind of each net that a node's pool may have, by the node's kind.
func ends(node int) []uint8 {
	if node == -1 {
		return []uint8{1, 11}
	}
	return []uint8{5, 8}
}

// toward is a note of a kind to a node; to the home it is from the core 0.
func toward(number uint8, node, block int) api.Note {
	return between(number, max(node, 0), block)
}

// fill sends notes until no pool has room, and asks for one more in each.
func (b both) fill(t *testing.T) {
	t.Helper()
	for node := -1; node < b.model.cores; node++ {
		for _, number := range ends(node) {
			for b.net.Room(node, kinds[number-1].net) > 0 {
				if e := b.net.Send(toward(number, node, 0)); e != api.OK {
					t.Fatal("Send", node, number, e)
				}
				b.model.notes = append(b.model.notes, toward(number, node, 0))
			}
			refuses(t, b, toward(number, node, 0), api.ErrFull)
		}
	}
}

// P9.1: the last core and the last data block fit; those behind them do not.
func TestSendAtTheEdges(t *testing.T) {
	for _, p := range plans {
		b := made(t, p.c, p.data, 1024)
		for _, k := range kinds {
			for core := range 16 {
				for _, block := range []int{0, p.data - 1, p.data, p.data + 1, p.c.Blocks - 1, p.c.Blocks, 255} {
					if block < 256 {
						b.send(t, between(k.number, core, block))
					}
				}
			}
		}
		b.like(t)
		for _, n := range b.model.notes {
			if n.Block >= p.data || max(n.From, n.To) >= p.c.Cores {
				t.Error(n)
			}
		}
	}
}

// P9.1: each core and each block of a plan, alone.
func TestSendOfEach(t *testing.T) {
	for _, p := range plans {
		b := made(t, p.c, p.data, 1)
		for _, k := range kinds {
			for core := range 16 {
				for block := range 256 {
					want := api.OK
					if core >= p.c.Cores || block >= p.data {
						want = api.ErrArg
					}
					n := between(k.number, core, block)
					if e := b.net.Send(n); e != want {
						t.Fatal("Send", p.c, n, e, "not", want)
					}
					if want == api.OK {
						b.net.Take(0)
					}
				}
			}
		}
		if b.net.Len() != 0 {
			t.Error(b.net.Len())
		}
	}
}

// P9.1: what does not fit is told ahead of what has no room.
func TestOrderOfErrors(t *testing.T) {
	b := made(t, small, 8, 1)
	b.fill(t)
	for _, n := range []api.Note{between(1, 2, 5), between(1, 15, 5), between(1, 0, 8), between(11, 1, 9), between(5, 0, 8), between(8, 1, 255)} {
		refuses(t, b, n, api.ErrArg)
	}
	for _, n := range []api.Note{between(1, 1, 7), between(11, 0, 0), between(5, 0, 7), between(8, 1, 0)} {
		refuses(t, b, n, api.ErrFull)
	}
	b.like(t)
	var none *net.Net
	if e := none.Send(api.Note{}); e != api.ErrNil {
		t.Error(e)
	}
}

// P9.1, P9.4: a pool that is full leaves the others as they are, and the other way round.
func TestFullPools(t *testing.T) {
	for _, p := range []int{0, 1, 2, 6} {
		for _, room := range []int{1, 2, 3} {
			c, data := plans[p].c, plans[p].data
			for node := -1; node < c.Cores; node++ {
				for _, number := range ends(node) {
					oneFull(t, made(t, c, data, room), node, number)
					oneFree(t, made(t, c, data, room), node, number)
				}
			}
		}
	}
}

func oneFull(t *testing.T, b both, node int, number uint8) {
	t.Helper()
	for range b.model.room + 1 {
		b.send(t, toward(number, node, 0))
	}
	refuses(t, b, toward(number, node, 0), api.ErrFull)
	b.like(t)
	for other := -1; other < b.model.cores; other++ {
		for _, x := range ends(other) {
			if other != node || x != number {
				for range b.model.room {
					b.send(t, toward(x, other, 0))
				}
				refuses(t, b, toward(x, other, 0), api.ErrFull)
			}
		}
	}
	if b.net.Len() != b.model.room*2*(b.model.cores+1) {
		t.Error(b.net.Len())
	}
	b.like(t)
}

func oneFree(t *testing.T, b both, node int, number uint8) {
	t.Helper()
	b.fill(t)
	full := len(b.model.notes)
	for i := full - 1; i >= 0; i-- {
		if n := b.model.notes[i]; n.To == node && n.Kind == number {
			b.take(t, i)
		}
	}
	for i := range b.model.room {
		if b.net.Room(node, kinds[number-1].net) != b.model.room-i {
			t.Error(node, number, i)
		}
		b.send(t, toward(number, node, 0))
	}
	refuses(t, b, toward(number, node, 0), api.ErrFull)
	if b.net.Len() != full {
		t.Error(b.net.Len(), full)
	}
	b.like(t)
}

// P9.1: notes of kinds that use one net share a pool; those of different cores to the home as well.
func TestPoolIsShared(t *testing.T) {
	for _, k := range kinds {
		for _, l := range kinds {
			b := made(t, small, 8, 1)
			b.send(t, between(k.number, 1, 2))
			want := api.OK
			if k.net == l.net && k.toHome == l.toHome {
				want = api.ErrFull
			}
			if e := b.net.Send(between(l.number, 1, 3)); e != want {
				t.Error(k.number, l.number, e, "not", want)
			}
		}
	}
	b := made(t, great, 240, 3)
	b.send(t, between(1, 0, 1), between(2, 15, 2), between(3, 7, 3))
	refuses(t, b, between(1, 4, 4), api.ErrFull)
	b.send(t, between(9, 0, 1), between(10, 15, 2), between(11, 7, 3))
	refuses(t, b, between(9, 4, 4), api.ErrFull)
	b.send(t, between(4, 9, 1), between(5, 9, 2), between(4, 9, 1))
	refuses(t, b, between(5, 9, 4), api.ErrFull)
	b.send(t, between(6, 9, 1), between(7, 9, 2), between(8, 9, 2))
	refuses(t, b, between(6, 9, 4), api.ErrFull)
	b.send(t, between(6, 8, 1), between(5, 10, 1))
	b.like(t)
}

// P9.1, P9.2: all the room that there may be is there.
func TestAllRoom(t *testing.T) {
	for _, p := range []int{0, 1} {
		b := made(t, plans[p].c, plans[p].data, 1024)
		b.fill(t)
		if b.net.Len() != 2048*(plans[p].c.Cores+1) {
			t.Error(b.net.Len())
		}
		b.like(t)
		for range 2000 {
			b.take(t, 7)
		}
		b.like(t)
	}
	b := made(t, great, 240, 64)
	b.fill(t)
	if b.net.Len() != 64*2*17 {
		t.Error(b.net.Len())
	}
	b.like(t)
}

// P9.2: Room of nodes and nets that there are and that there are not.
func TestRoom(t *testing.T) {
	for _, p := range plans {
		b := made(t, p.c, p.data, 9)
		for range 2 {
			for node := -1; node < p.c.Cores; node++ {
				for which := range 3 {
					if got, want := b.net.Room(node, which), b.model.left(node, which); got != want || got == 0 {
						t.Error(p.c, node, which, got, want)
					}
				}
				for _, which := range slices.Concat(huge, []int{-1, -2, 3, 4, 5, 6, 7}) {
					if got := b.net.Room(node, which); got != 0 {
						t.Error(p.c, node, which, got)
					}
				}
			}
			for which := -2; which < 5; which++ {
				for _, node := range slices.Concat(huge, []int{-2, -3, p.c.Cores, p.c.Cores + 1, 16, 17}) {
					if got := b.net.Room(node, which); got != 0 {
						t.Error(p.c, node, which, got)
					}
				}
			}
			b.send(t, between(1, 0, 0), between(5, p.c.Cores-1, 0), between(7, 0, 0), between(7, 0, 0))
		}
	}
}

// P9.2: Room behind Send and Take, of each kind.
func TestRoomFollows(t *testing.T) {
	for _, k := range kinds {
		b := made(t, small, 8, 4)
		n := between(k.number, 1, 6)
		for i := range 4 {
			b.send(t, n)
			if left := b.net.Room(n.To, k.net); left != 3-i {
				t.Error(k.number, i, left)
			}
			b.like(t)
		}
		b.send(t, n)
		for i := range 4 {
			b.take(t, 0)
			if left := b.net.Room(n.To, k.net); left != i+1 {
				t.Error(k.number, i, left)
			}
			b.like(t)
		}
	}
}

// some is a net with different notes: to the home and to each core, in each net.
func some(t *testing.T) both {
	t.Helper()
	b := made(t, small, 8, 3)
	b.send(t,
		stamped(1, 0, 3, 1), stamped(5, 1, 3, 2), stamped(6, 0, 7, 3), stamped(9, 1, 0, 4),
		stamped(2, 1, 1, 5), stamped(4, 0, 2, 6), stamped(7, 1, 2, 7), stamped(3, 0, 5, 8),
	)
	if b.net.Len() != 8 {
		t.Fatal(b.net.Len())
	}
	return b
}

// P9.2: All is in the order of sending, may be left early, and gone over twice.
func TestAll(t *testing.T) {
	b := some(t)
	over := b.net.All()
	for stop := range 9 {
		var got []api.Note
		for n := range over {
			if len(got) == stop {
				break
			}
			got = append(got, n)
		}
		if !slices.Equal(got, b.model.notes[:stop]) {
			t.Error(stop, got)
		}
	}
	for range 2 {
		if got := slices.Collect(over); !slices.Equal(got, b.model.notes) {
			t.Error(got)
		}
	}
	b.like(t)
	empty := made(t, small, 8, 3)
	for n := range empty.net.All() {
		t.Error(n)
	}
}

// P9.2: two that go over one net do not disturb each other.
func TestAllWithinAll(t *testing.T) {
	b := some(t)
	i := 0
	for n := range b.net.All() {
		if n != b.model.notes[i] {
			t.Error(i, n)
		}
		if got := all(b.net); !slices.Equal(got, b.model.notes) {
			t.Error(i, got)
		}
		i++
	}
	if i != 8 {
		t.Error(i)
	}
}

// P9.2: of each core the hops of notes to the home and from it; those on their way have none yet.
func TestHops(t *testing.T) {
	want := []int{1, 2, 3, 4, 2, 3, 4, 5, 3, 4, 5, 6, 4, 5, 6, 7}
	for core, hops := range want {
		for _, k := range kinds {
			b := made(t, great, 240, 3)
			b.send(t, between(k.number, core, 1), between(k.number, core, 2))
			if b.net.Hops() != 0 {
				t.Error(core, k.number, b.net.Hops())
			}
			for i := range 2 {
				b.take(t, 0)
				if b.net.Hops() != (i+1)*hops {
					t.Error(core, k.number, i, b.net.Hops())
				}
			}
			b.take(t, 0)
			if b.net.Hops() != 2*hops {
				t.Error(core, k.number, b.net.Hops())
			}
		}
	}
}

// P9.2: the hops of all that were taken, together; what is looked at, refused, or not there, adds none.
func TestHopsTogether(t *testing.T) {
	b := made(t, great, 240, 2)
	sum := 0
	for core := range 16 {
		b.send(t, between(6, core, core), between(4, core, core))
		sum += 2 * (core%4 + core/4 + 1)
	}
	refuses(t, b, between(1, 3, 240), api.ErrArg)
	for i := range b.net.Len() {
		b.net.At(i)
	}
	for range b.net.All() {
	}
	b.take(t, -1)
	b.take(t, b.net.Len())
	if b.net.Hops() != 0 {
		t.Error(b.net.Hops())
	}
	for b.net.Len() > 0 {
		b.take(t, b.net.Len()/3)
	}
	if b.net.Hops() != sum {
		t.Error(b.net.Hops(), sum)
	}
	b.like(t)
}

// P9.3: At and Take of places that are none.
func TestNoPlace(t *testing.T) {
	for _, b := range []both{made(t, small, 8, 3), some(t)} {
		for _, i := range slices.Concat(huge, []int{-1, -2, -8, b.net.Len(), b.net.Len() + 1, 8, 9, 18, 1024}) {
			if n, e := b.net.At(i); n != (api.Note{}) || e != api.ErrRange {
				t.Error("At", i, n, e)
			}
			if n, e := b.net.Take(i); n != (api.Note{}) || e != api.ErrRange {
				t.Error("Take", i, n, e)
			}
		}
		b.like(t)
	}
}

// P9.3: At leaves the note where it is; Take takes it away, and what stands behind it comes nearer.
func TestAtAndTake(t *testing.T) {
	for i := range 8 {
		b := some(t)
		want := b.model.notes[i]
		for range 3 {
			if n, e := b.net.At(i); n != want || e != api.OK {
				t.Error("At", i, n, e)
			}
		}
		b.like(t)
		if n, e := b.net.Take(i); n != want || e != api.OK {
			t.Error("Take", i, n, e)
		}
		b.model.take(i)
		if slices.Contains(all(b.net), want) {
			t.Error("there still", i)
		}
		b.like(t)
		b.send(t, want)
		if n, e := b.net.At(7); n != want || e != api.OK {
			t.Error("At 7", n, e)
		}
		b.like(t)
	}
}

// P9.3: a note that is taken leaves room for one more in its pool, and in no other one.
func TestTakeMakesRoom(t *testing.T) {
	b := made(t, small, 8, 2)
	b.fill(t)
	many := b.net.Len()
	for _, i := range []int{0, 3, many - 1, many / 2, 0, many - 1} {
		n, e := b.net.Take(i)
		want, _ := b.model.take(i)
		if n != want || e != api.OK {
			t.Fatal(i, n, e)
		}
		b.like(t)
		for node := -1; node < 2; node++ {
			for _, number := range ends(node) {
				if x := toward(number, node, 0); x != n {
					refuses(t, b, x, api.ErrFull)
				}
			}
		}
		b.send(t, n)
		refuses(t, b, n, api.ErrFull)
		b.like(t)
	}
}

// P9.3, P9.4: of notes that are alike each one is taken once.
func TestAlikeNotes(t *testing.T) {
	b := made(t, small, 8, 5)
	n := between(5, 1, 3)
	b.send(t, n, n, n, between(4, 1, 3), n)
	b.take(t, 1)
	b.like(t)
	b.take(t, 2)
	b.like(t)
	for range 3 {
		b.take(t, 0)
	}
	b.like(t)
	b.take(t, 0)
}

// P9.4: what is sent is taken, each note once, whatever is picked.
func TestEachOnce(t *testing.T) {
	picks := map[string]func(len, i int) int{
		"first":  func(len, i int) int { return 0 },
		"last":   func(len, i int) int { return len - 1 },
		"middle": func(len, i int) int { return len / 2 },
		"turns":  func(len, i int) int { return (i % 2) * (len - 1) },
		"wild":   func(len, i int) int { return (i*i*31 + 17*i + 5) % len },
	}
	for name, pick := range picks {
		n, e := net.New(great, 60)
		if e != api.OK {
			t.Fatal(e)
		}
		sent, taken := map[uint64]api.Note{}, map[uint64]bool{}
		stamp := uint64(0)
		for i := range 3000 {
			for range i % 3 {
				x := between([]uint8{1, 2, 4, 5, 7, 10}[stamp%6], int(stamp*7%16), int(stamp*11%240))
				x.Stamp = stamp + 1
				if n.Send(x) == api.OK {
					stamp++
					sent[stamp] = x
				}
			}
			if n.Len() == 0 {
				continue
			}
			took(t, n, pick(n.Len(), i), sent, taken, name)
		}
		for n.Len() > 0 {
			took(t, n, pick(n.Len(), n.Len()), sent, taken, name)
		}
		if len(taken) != len(sent) {
			t.Error(name, len(taken), "of", len(sent))
		}
	}
}

func took(t *testing.T, n *net.Net, i int, sent map[uint64]api.Note, taken map[uint64]bool, name string) {
	t.Helper()
	x, e := n.Take(i)
	if e != api.OK || x != sent[x.Stamp] || taken[x.Stamp] {
		t.Fatal(name, i, x, e)
	}
	taken[x.Stamp] = true
}

// P9.1 to P9.4: whatever is done, in long rows, is what the chapter's words say.
func TestLongRuns(t *testing.T) {
	for which, p := range plans {
		for _, room := range []int{1, 2, 5, 30} {
			m := uint32(1000*which + room)
			next := func(below int) int {
				m = m*1664525 + 1013904223
				return int(m>>8) % below
			}
			b := made(t, p.c, p.data, room)
			longRun(t, b, next)
			if t.Failed() {
				t.Fatal(p.c, room)
			}
		}
	}
}

func longRun(t *testing.T, b both, next func(int) int) {
	t.Helper()
	for i := range 1500 {
		switch what := next(20); {
		case what < 10:
			core, block := next(b.model.cores+1)%16, next(b.model.data+1)%256
			b.send(t, stamped(uint8(next(11)+1), core, block, uint64(i+1)))
		case what < 12:
			refuses(t, b, between(1, 1, 256), api.ErrArg)
		case what < 19:
			b.take(t, next(b.net.Len()+1))
		default:
			other := both{b.net.Copy(), b.model.copy()}
			b.take(t, next(b.net.Len()+1))
			if next(2) == 0 {
				b = other
			}
		}
		if i%50 == 0 {
			b.like(t)
		}
	}
	b.like(t)
}

// P9.2: a copy is the same, and neither one changes the other.
func TestCopy(t *testing.T) {
	a := some(t)
	a.take(t, 3)
	b := both{a.net.Copy(), a.model.copy()}
	if a.net == b.net {
		t.Fatal("no other one")
	}
	b.like(t)
	for range 2 {
		b.take(t, 1)
		b.send(t, stamped(8, 1, 6, 0), stamped(8, 1, 7, 0), stamped(10, 0, 1, 90))
		a.like(t)
		b.like(t)
		a, b = b, a
	}
	a.send(t, stamped(5, 0, 1, 91))
	b.send(t, stamped(5, 0, 2, 92))
	a.like(t)
	b.like(t)
	for a.net.Len() > 0 {
		a.take(t, 0)
	}
	a.like(t)
	b.like(t)
}

// P9.2: a copy has the same room and plan, without notes too.
func TestCopyOfEmpty(t *testing.T) {
	for _, p := range plans {
		a := made(t, p.c, p.data, 2)
		b := both{a.net.Copy(), a.model.copy()}
		b.like(t)
		b.fill(t)
		b.send(t, between(1, 0, p.data%256), between(1, p.c.Cores%16, 0))
		a.like(t)
		b.like(t)
		both{b.net.Copy().Copy(), b.model}.like(t)
	}
}

// P9.1, P9.2: nets are apart from each other.
func TestTwoNets(t *testing.T) {
	a, b := made(t, small, 8, 2), made(t, small, 8, 2)
	a.send(t, between(1, 0, 0), between(5, 1, 0))
	b.like(t)
	b.send(t, between(2, 1, 7))
	b.take(t, 0)
	a.like(t)
	b.like(t)
}

// P9.1 to P9.3, R4: of a nil net each call answers ErrNil, or nothing.
func TestNil(t *testing.T) {
	var none *net.Net
	for _, n := range append(strange(), between(1, 0, 0), between(8, 15, 255)) {
		if e := none.Send(n); e != api.ErrNil {
			t.Error("Send", n, e)
		}
	}
	for _, i := range append([]int{-1, 0, 1, 2}, huge...) {
		if n, e := none.At(i); n != (api.Note{}) || e != api.ErrNil {
			t.Error("At", i, n, e)
		}
		if n, e := none.Take(i); n != (api.Note{}) || e != api.ErrNil {
			t.Error("Take", i, n, e)
		}
		for which := -1; which < 4; which++ {
			if many := none.Room(i, which); many != 0 {
				t.Error("Room", i, which, many)
			}
		}
	}
	if none.Len() != 0 || none.Hops() != 0 || none.Copy() != nil {
		t.Error(none.Len(), none.Hops(), none.Copy())
	}
	for n := range none.All() {
		t.Error(n)
	}
}

func TestNumbersOfTheDocument(t *testing.T) {
	if api.Nets != 3 || api.NetRoom != 1024 || api.MaxCores != 16 || api.Home != -1 {
		t.Error(api.Nets, api.NetRoom, api.MaxCores, api.Home)
	}
	if api.ErrNil != 1 || api.ErrArg != 2 || api.ErrRange != 5 || api.ErrFull != 7 {
		t.Error(api.ErrNil, api.ErrArg, api.ErrRange, api.ErrFull)
	}
}

// P9.1 to P9.3: the chapter's table.
func TestExamples(t *testing.T) {
	n, e := net.New(small, 1)
	if e != api.OK {
		t.Fatal(e)
	}
	done := api.Note{Kind: api.NtDone, From: 0, To: api.Home, Block: 6}
	sent := []api.Errno{
		n.Send(api.Note{Kind: api.NtGetS, From: 1, To: api.Home, Block: 5}),
		n.Send(api.Note{Kind: api.NtGetM, From: 0, To: api.Home, Block: 6}),
		n.Send(done),
	}
	if want := []api.Errno{api.OK, api.ErrFull, api.OK}; !slices.Equal(sent, want) {
		t.Error(sent)
	}
	if n.Len() != 2 {
		t.Error(n.Len())
	}
	if x, e := n.Take(1); x != done || e != api.OK {
		t.Error(x, e)
	}
	if x, e := n.Take(1); x != (api.Note{}) || e != api.ErrRange {
		t.Error(x, e)
	}
	if n.Hops() != 1 {
		t.Error(n.Hops())
	}
	if e := n.Send(api.Note{Kind: api.NtGetS, From: 2, To: api.Home}); e != api.ErrArg {
		t.Error(e)
	}
	if e := n.Send(api.Note{Kind: api.NtGetS, From: 0, To: api.Home, Block: 8}); e != api.ErrArg {
		t.Error(e)
	}
}
