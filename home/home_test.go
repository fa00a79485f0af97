package home_test

import (
	"math"
	"slices"
	"testing"

	"undertow/api"
	"undertow/home"
	"undertow/mem"
)

// small is the plan of the chapter's examples: its data blocks are 0 to 7; 4 asks may wait.
var small = api.Config{Cores: 2, Sets: 2, Ways: 2, Blocks: 10, Logs: 1, Backs: 1, Nest: 1}

// four has four cores; its data blocks are 0 to 3; 12 asks may wait.
var four = api.Config{Cores: 4, Sets: 1, Ways: 1, Blocks: 12, Logs: 2, Backs: 2, Nest: 1}

// great is the greatest plan: its data blocks are 0 to 239; 80 asks may wait.
var great = api.Config{Cores: 16, Sets: 16, Ways: 4, Blocks: 256, Logs: 1, Backs: 4, Nest: 8, Tries: 8}

// least is the least plan: its data block is 0; 2 asks may wait.
var least = api.Config{Cores: 1, Sets: 1, Ways: 1, Blocks: 2, Logs: 1, Backs: 1, Nest: 1}

// plans are some that may be, from the least to the greatest; with their data blocks, and how many asks may wait.
var plans = []struct {
	c          api.Config
	data, room int
}{
	{least, 1, 2},
	{small, 8, 4},
	{four, 4, 12},
	{api.Config{Cores: 3, Sets: 8, Ways: 1, Blocks: 16, Logs: 4, Backs: 4, Nest: 3, Tries: 2}, 4, 15},
	{api.Config{Cores: 1, Sets: 1, Ways: 4, Blocks: 256, Logs: 1, Backs: 3, Nest: 1}, 255, 4},
	{api.Config{Cores: 16, Sets: 1, Ways: 1, Blocks: 65, Logs: 4, Backs: 1, Nest: 1, Tries: 1}, 1, 32},
	{great, 240, 80},
}

// huge are numbers far from all that a home has, and such as are like small ones if upper bits were dropped.
var huge = []int{
	math.MinInt, math.MinInt + 1, math.MinInt32, math.MaxInt, math.MaxInt - 1, math.MaxInt32, math.MaxUint32,
	1 << 8, 1<<8 + 1, 1 << 16, 1<<16 + 1, 1 << 32, 1<<32 + 1, 1<<32 - 1, 1 << 62, 1<<62 + 1,
	-1 << 8, 1 - 1<<8, -1 << 16, 1 - 1<<16, -1 << 32, 1 - 1<<32, -1 << 62, -1<<62 - 1,
}

func TestNumbersOfTheDocument(t *testing.T) {
	if api.OK != 0 || api.ErrNil != 1 || api.ErrArg != 2 || api.ErrRange != 5 || api.ErrState != 8 || api.ErrBusy != 110 {
		t.Error(api.OK, api.ErrNil, api.ErrArg, api.ErrRange, api.ErrState, api.ErrBusy)
	}
	if api.NtGetS != getS || api.NtGetM != getM || api.NtPut != put || api.NtDown != down || api.NtInv != inv || api.NtData != data {
		t.Error(api.NtGetS, api.NtGetM, api.NtPut, api.NtDown, api.NtInv, api.NtData)
	}
	if api.NtNack != nack || api.NtPutAck != putAck || api.NtAck != ack || api.NtRefuse != refuse || api.NtDone != done {
		t.Error(api.NtNack, api.NtPutAck, api.NtAck, api.NtRefuse, api.NtDone)
	}
	if api.Home != -1 || api.StShared != 1 || api.StAlone != 2 || api.StOwn != 3 {
		t.Error(api.Home, api.StShared, api.StAlone, api.StOwn)
	}
}

// P11.1: plans that may be, over memories of as many blocks, are homes of which all blocks are free.
func TestNew(t *testing.T) {
	for _, p := range plans {
		b := made(t, p.c)
		if b.model.data != p.data || b.model.room != p.room {
			t.Error(p, b.model.data, b.model.room)
		}
		b.like(t)
		for block := range p.data {
			if e, err := b.home.Entry(block); e != (api.Entry{Owner: -1}) || err != api.OK || b.home.Busy(block) {
				t.Error(block, e, err)
			}
		}
	}
}

func refusesNew(t *testing.T, c api.Config, m *mem.Mem, want api.Errno) {
	t.Helper()
	if h, e := home.New(c, m); h != nil || e != want {
		t.Error("New", c, m.Blocks(), h, e, "not", want)
	}
}

func memory(t *testing.T, blocks int) *mem.Mem {
	t.Helper()
	m, e := mem.New(blocks)
	if e != api.OK {
		t.Fatal("mem.New", blocks, e)
	}
	return m
}

// badPlans are such as may not be: each field just past a bound, and huge; and no data block.
func badPlans() []api.Config {
	at := func(c *api.Config, i int) *int {
		return []*int{&c.Cores, &c.Sets, &c.Ways, &c.Blocks, &c.Logs, &c.Backs, &c.Nest, &c.Tries}[i]
	}
	wrong := [][]int{
		{-1, 0, 17, 18}, {-1, 0, 3, 5, 17, 32}, {-1, 0, 3, 5, 8}, {-1, 0, 257},
		{-1, 0, 5}, {-1, 0, 5}, {-1, 0, 9}, {-1, 9},
	}
	l := []api.Config{
		{},
		{Cores: 2, Sets: 2, Ways: 2, Blocks: 2, Logs: 1, Backs: 1, Nest: 1},
		{Cores: 2, Sets: 2, Ways: 2, Blocks: 1, Logs: 1, Backs: 1, Nest: 1},
		{Cores: 16, Sets: 2, Ways: 2, Blocks: 64, Logs: 4, Backs: 1, Nest: 1},
	}
	for i, numbers := range wrong {
		for _, x := range slices.Concat(numbers, huge) {
			c := small
			if *at(&c, i) = x; i != 3 || x < 3 || x > 256 {
				l = append(l, c)
			}
		}
	}
	return l
}

// P11.1, R2: no memory is told ahead of a plan that may not be.
func TestNewOfNoMemory(t *testing.T) {
	for _, p := range plans {
		refusesNew(t, p.c, nil, api.ErrNil)
	}
	for _, c := range badPlans() {
		refusesNew(t, c, nil, api.ErrNil)
	}
}

// P11.1: plans that may not be, over memories of as many blocks, where there may be such, and of others.
func TestNewOfBadPlan(t *testing.T) {
	for _, c := range badPlans() {
		refusesNew(t, c, memory(t, 10), api.ErrArg)
		refusesNew(t, c, memory(t, 1), api.ErrArg)
		if c.Blocks >= 1 && c.Blocks <= 256 {
			refusesNew(t, c, memory(t, c.Blocks), api.ErrArg)
		}
	}
}

// P11.1: memories with more blocks, and with fewer ones.
func TestNewOfOtherMemory(t *testing.T) {
	for _, p := range plans {
		for blocks := 1; blocks <= 256; blocks++ {
			if blocks != p.c.Blocks {
				refusesNew(t, p.c, memory(t, blocks), api.ErrArg)
			}
		}
	}
}

// R4: of no home.
func TestNil(t *testing.T) {
	var h *home.Home
	l := slices.Concat(strange(), downward(), []api.Note{
		asks(getS, 0, 0, 0), asks(getM, 1, 3, 7), puts(0, 0, filled(1), false), acks(0, 0), refuses(0, 0, 3), saysDone(0, 0),
	})
	for _, n := range l {
		if e := h.Ready(n); e != api.ErrNil {
			t.Error("Ready", n, e)
		}
		if out, e := h.Take(n); len(out) != 0 || e != api.ErrNil {
			t.Error("Take", n, out, e)
		}
	}
	for _, block := range slices.Concat(huge, []int{-1, 0, 1, 7, 8, 255}) {
		if e, err := h.Entry(block); e != (api.Entry{}) || err != api.ErrNil {
			t.Error("Entry", block, e, err)
		}
		if h.Busy(block) {
			t.Error("Busy", block)
		}
	}
	if h.Waits() != 0 || h.Copy() != nil {
		t.Error(h.Waits(), h.Copy())
	}
}

// toHome is a note of each kind that goes to the home.
func toHome(core, block int) []api.Note {
	return []api.Note{
		asks(getS, core, block, 0), asks(getM, core, block, 5), puts(core, block, filled(9), false), puts(core, block, filled(9), true),
		acks(core, block), acksWith(core, block, filled(9)), refuses(core, block, 6), saysDone(core, block),
	}
}

// downward are notes that may be, and are not to the home.
func downward() []api.Note {
	var l []api.Note
	for core := range 3 {
		for _, block := range []int{0, 1, 3, 7, 255} {
			l = append(l, toDown(core, block, 1), toInv(core, block, 0), toData(core, block, 1, filled(3)), toData(core, block, 3, api.Block{}), toNack(core, block, 4), toPutAck(core, block))
		}
	}
	return l
}

// strange are notes that may not be, whatever the plan is.
func strange() []api.Note {
	l := []api.Note{
		{}, {Kind: 0, From: 1, To: -1}, {Kind: 12, From: 1, To: -1}, {Kind: 255, From: 1, To: -1},
		{Kind: 1, From: -1, To: -1}, {Kind: 9, From: -1, To: -1}, {Kind: 11, From: -1, To: -1},
		{Kind: 1, From: 0, To: 1}, {Kind: 9, From: 1, To: 0}, {Kind: 11, From: 0, To: 0}, {Kind: 1, From: -1, To: 0},
		{Kind: 4, From: 0, To: -1}, {Kind: 5, From: 0, To: -1}, {Kind: 6, From: 0, To: -1, State: 1, Has: true}, {Kind: 7, From: 0, To: -1}, {Kind: 8, From: 0, To: -1},
	}
	for _, n := range toHome(0, 0) {
		changed := func(set func(n *api.Note)) {
			m := n
			set(&m)
			l = append(l, m)
		}
		changed(func(n *api.Note) { n.From, n.To = n.To, n.From })
		changed(func(n *api.Note) { n.State = 1 })
		changed(func(n *api.Note) { n.State = 4 })
		changed(func(n *api.Note) { n.Has, n.Stamp = !n.Has, 1<<63 })
		changed(func(n *api.Note) { n.Has, n.Data[15] = false, 1 })
		if n.Kind != put {
			changed(func(n *api.Note) { n.Stick = true })
		}
		if n.Kind == put || n.Kind == ack || n.Kind == done {
			changed(func(n *api.Note) { n.Stamp = 1 })
		}
		for _, x := range slices.Concat(huge, []int{-1, -2, -3, 16, 17}) {
			changed(func(n *api.Note) { n.From = x })
			if x != -1 {
				changed(func(n *api.Note) { n.To = x })
			}
			if x < 0 || x > 255 {
				changed(func(n *api.Note) { n.Block = x })
			}
		}
	}
	return l
}

// busied is a home of four cores whose blocks are in all ways that there are: 0 free, 1 asked about, 2 answered, 3 not under way, with sharers; nobody waits, or nobody more may.
func busied(t *testing.T, full bool) both {
	t.Helper()
	b := made(t, four)
	b.become(t, 1, 0, 1, 2)
	b.take(t, asks(getM, 3, 1, 5), toInv(0, 1, 5), toInv(1, 1, 5), toInv(2, 1, 5))
	b.take(t, acks(1, 1))
	b.take(t, asks(getM, 2, 2, 5), toData(2, 2, 3, filled(1002)))
	b.become(t, 3, 1, 2)
	for i := 0; full && i < 12; i++ {
		b.take(t, asks(getS, i%4, 1+i%2, uint64(i)))
	}
	return b
}

// P11.2: notes that may not be, and such as are not to the home, whatever is under way.
func TestTakeOfStrange(t *testing.T) {
	for _, b := range []both{made(t, four), busied(t, false), busied(t, true)} {
		for _, n := range slices.Concat(strange(), downward()) {
			b.refuse(t, n, api.ErrArg)
		}
	}
}

// P11.2: the last core and the last data block fit; those behind them, of logs as well, do not.
func TestTakeAtTheEdges(t *testing.T) {
	for _, p := range plans {
		for core := range 16 {
			for _, block := range []int{0, p.data - 1, p.data, p.data + 1, p.c.Blocks - 1, p.c.Blocks, 255} {
				b := made(t, p.c)
				for _, n := range toHome(core, block) {
					switch {
					case core >= p.c.Cores || block >= p.data:
						b.refuse(t, n, api.ErrArg)
					case n.Kind == ack || n.Kind == refuse:
						b.refuse(t, n, api.ErrState)
					case n.Kind == done:
						b.take(t, n, toData(core, block, 3, filled(1000+block)))
					case n.Kind == getS:
						b.take(t, n, toData(core, block, 2, filled(1000+block)))
					default:
						b.send(t, n)
					}
				}
			}
		}
	}
}

// P11.2, R2: what does not fit is told ahead of what is not ready, and that ahead of nothing.
func TestOrderOfErrors(t *testing.T) {
	b := busied(t, true)
	for _, block := range []int{0, 1, 2, 3} {
		for _, n := range toHome(4, block) {
			b.refuse(t, n, api.ErrArg)
		}
	}
	for _, block := range []int{4, 5, 11, 12} {
		for _, n := range toHome(3, block) {
			b.refuse(t, n, api.ErrArg)
		}
	}
}

// P11.2: each kind, from each core, of a block of which none is under way: asks begin, answers are none's.
func TestNoneUnderWay(t *testing.T) {
	for _, full := range []bool{false, true} {
		for _, block := range []int{0, 3} {
			for core := range 4 {
				b := busied(t, full)
				for _, n := range []api.Note{acks(core, block), acksWith(core, block, filled(1)), refuses(core, block, 0), saysDone(core, block)} {
					b.refuse(t, n, api.ErrState)
				}
				for i, n := range toHome(core, block)[:4] {
					b := busied(t, full)
					if out, e := b.send(t, n); e != api.OK || len(out) == 0 || b.home.Busy(block) != (i < 2) {
						t.Error(full, n, out, e)
					}
					b.like(t)
				}
			}
		}
	}
}

// P11.2: each kind, from each core, of a block that is asked about, or was answered.
func TestUnderWay(t *testing.T) {
	for _, full := range []bool{false, true} {
		for core := range 4 {
			for _, block := range []int{1, 2} {
				for i, n := range toHome(core, block) {
					want := api.OK
					switch {
					case n.Kind == ack || n.Kind == refuse:
						// Of 1 the cores 0 to 2 were asked, and 1 has answered.
						if block == 2 || core == 1 || core == 3 {
							want = api.ErrState
						}
					case n.Kind == done:
						// 2 was answered to the core 2.
						if block == 1 || core != 2 {
							want = api.ErrState
						}
					case full:
						want = api.ErrBusy
					}
					b := busied(t, full)
					waits := b.home.Waits()
					if out, e := b.send(t, n); e != want || i < 5 && len(out) != 0 {
						t.Error(full, n, out, e, "not", want)
					}
					if i < 4 && !full && b.home.Waits() != waits+1 {
						t.Error(n, "does not wait")
					}
					b.like(t)
				}
			}
		}
	}
}

// P11.2: NtDone once, of the core that was answered alone, and not ahead of the answer.
func TestDone(t *testing.T) {
	b := made(t, four)
	b.refuse(t, saysDone(0, 2), api.ErrState)
	b.take(t, asks(getM, 0, 2, 3), toData(0, 2, 3, filled(1002)))
	b.refuse(t, saysDone(1, 2), api.ErrState)
	b.refuse(t, saysDone(0, 1), api.ErrState)
	b.take(t, saysDone(0, 2))
	b.refuse(t, saysDone(0, 2), api.ErrState)
	b.take(t, asks(getS, 1, 2, 3), toDown(0, 2, 3))
	b.refuse(t, saysDone(1, 2), api.ErrState)
	b.refuse(t, saysDone(0, 2), api.ErrState)
	b.take(t, acks(0, 2), toData(1, 2, 1, filled(1002)))
	b.refuse(t, saysDone(0, 2), api.ErrState)
	b.take(t, saysDone(1, 2))
	b.refuse(t, saysDone(1, 2), api.ErrState)
}

// P11.2: an ask for which nobody must be asked is answered at once; the stamp of an ask changes nothing of that.
func TestNobodyAsked(t *testing.T) {
	for _, stamp := range []uint64{0, 1, math.MaxUint64} {
		b := made(t, great)
		for core := range 16 {
			for i, kind := range []uint8{getS, getM} {
				block := 2*core + i
				for j, state := range []api.State{api.State(2 + i), 2, 3} {
					ask := []uint8{kind, getS, getM}[j]
					b.take(t, asks(ask, core, block, stamp), toData(core, block, state, filled(1000+block)))
					b.take(t, saysDone(core, block))
				}
			}
		}
		b.become(t, 239, 3, 4)
		b.take(t, asks(getS, 15, 239, stamp), toData(15, 239, 1, filled(1239)))
		b.take(t, saysDone(15, 239))
		b.take(t, asks(getS, 3, 239, stamp), toData(3, 239, 1, filled(1239)))
	}
}

// P11.2: one core must be asked: the owner, or the other one of two sharers.
func TestOneAsked(t *testing.T) {
	for _, stamp := range []uint64{0, 1, 1 << 40, math.MaxUint64} {
		b := made(t, four)
		b.become(t, 0, 2)
		b.take(t, asks(getS, 1, 0, stamp), toDown(2, 0, stamp))
		b.take(t, acksWith(2, 0, filled(5)), toData(1, 0, 1, filled(5)))
		b.take(t, saysDone(1, 0))
		b.take(t, asks(getM, 1, 0, stamp), toInv(2, 0, stamp))
		b.take(t, acks(2, 0), toData(1, 0, 3, filled(5)))
		b.take(t, saysDone(1, 0))
		b.take(t, asks(getM, 3, 0, stamp), toInv(1, 0, stamp))
		b.take(t, acksWith(1, 0, filled(6)), toData(3, 0, 3, filled(6)))
		b.take(t, saysDone(3, 0))
		if e, _ := b.home.Entry(0); e != (api.Entry{Owner: 3}) {
			t.Error(e)
		}
	}
}

// P11.2: several must be asked: rising, each once, and whatever the order in which they answer nothing goes out until the last one did.
func TestSeveralAsked(t *testing.T) {
	for _, order := range [][]int{{0, 2, 3}, {0, 3, 2}, {2, 0, 3}, {2, 3, 0}, {3, 0, 2}, {3, 2, 0}} {
		b := made(t, four)
		b.become(t, 3, 3, 0, 1, 2)
		b.take(t, asks(getM, 1, 3, 77), toInv(0, 3, 77), toInv(2, 3, 77), toInv(3, 3, 77))
		for i, core := range order {
			if e, _ := b.home.Entry(3); e != (api.Entry{Owner: -1, Sharers: 15}) || !b.home.Busy(3) {
				t.Error(e)
			}
			if i == 2 {
				b.take(t, acks(core, 3), toData(1, 3, 3, filled(1003)))
			} else {
				b.take(t, acks(core, 3))
			}
			for _, again := range order[:i+1] {
				b.refuse(t, acks(again, 3), api.ErrState)
				b.refuse(t, acksWith(again, 3, filled(2)), api.ErrState)
				b.refuse(t, refuses(again, 3, 2), api.ErrState)
			}
			b.refuse(t, acks(1, 3), api.ErrState)
		}
		if e, _ := b.home.Entry(3); e != (api.Entry{Owner: 1}) {
			t.Error(e)
		}
	}
}

// P11.2: all others of sixteen are asked.
func TestAllAsked(t *testing.T) {
	for _, x := range []int{0, 7, 15} {
		b := made(t, great)
		b.become(t, 200, 0, 1, 2, 3, 4, 5, 6, 7, 8, 9, 10, 11, 12, 13, 14, 15)
		var invs []api.Note
		for core := range 16 {
			if core != x {
				invs = append(invs, toInv(core, 200, 9))
			}
		}
		b.take(t, asks(getM, x, 200, 9), invs...)
		for i, n := range invs {
			if i == 14 {
				b.take(t, acks(n.To, 200), toData(x, 200, 3, filled(1200)))
			} else {
				b.take(t, acks(n.To, 200))
			}
		}
	}
}

// P11.2: data of an NtAck is the memory's block, the last one's that Has; one that has none leaves it.
func TestAckData(t *testing.T) {
	b := made(t, four)
	b.become(t, 1, 0, 2, 3)
	b.take(t, asks(getM, 1, 1, 0), toInv(0, 1, 0), toInv(2, 1, 0), toInv(3, 1, 0))
	b.take(t, acksWith(2, 1, filled(2)))
	if x, _ := b.memory.Block(1); x != filled(2) {
		t.Error(x)
	}
	b.take(t, acksWith(0, 1, filled(1)))
	b.take(t, acks(3, 1), toData(1, 1, 3, filled(1)))
	b.take(t, saysDone(1, 1))
	b.take(t, asks(getS, 0, 1, 0), toDown(1, 1, 0))
	b.take(t, acks(1, 1), toData(0, 1, 1, filled(1)))
	b.take(t, saysDone(0, 1))
	b.take(t, asks(getM, 0, 1, 0), toInv(1, 1, 0))
	b.take(t, acksWith(1, 1, api.Block{}), toData(0, 1, 3, api.Block{}))
	if x, _ := b.memory.Block(1); x != (api.Block{}) {
		t.Error(x)
	}
}

// P11.2: a NtPut of the owner, and of others; sticking and not. PutAck goes out each time, and it is not under way.
func TestPut(t *testing.T) {
	for _, c := range []struct {
		have  []int
		x     int
		stick bool
		next  api.Entry
		taken bool
	}{
		{nil, 0, false, api.Entry{Owner: -1}, false},
		{nil, 3, true, api.Entry{Owner: -1}, false},
		{[]int{0}, 0, false, api.Entry{Owner: -1}, true},
		{[]int{0}, 0, true, api.Entry{Owner: 0}, true},
		{[]int{3}, 3, false, api.Entry{Owner: -1}, true},
		{[]int{3}, 3, true, api.Entry{Owner: 3}, true},
		{[]int{3}, 0, false, api.Entry{Owner: 3}, false},
		{[]int{0}, 3, true, api.Entry{Owner: 0}, false},
		{[]int{1, 2}, 1, false, api.Entry{Owner: -1, Sharers: 6}, false},
		{[]int{1, 2}, 2, true, api.Entry{Owner: -1, Sharers: 6}, false},
		{[]int{1, 2}, 0, false, api.Entry{Owner: -1, Sharers: 6}, false},
	} {
		b := made(t, four)
		b.become(t, 2, c.have...)
		for range 2 {
			b.take(t, puts(c.x, 2, filled(4), c.stick), toPutAck(c.x, 2))
			want := filled(1002)
			if c.taken {
				want = filled(4)
			}
			if x, _ := b.memory.Block(2); x != want {
				t.Error(c, x)
			}
			if e, _ := b.home.Entry(2); e != c.next || b.home.Busy(2) || b.home.Waits() != 0 {
				t.Error(c, e)
			}
		}
		b.take(t, puts(1, 2, filled(6), false), toPutAck(1, 2))
	}
}

// P11.2: behind a block that sticks its owner is asked still; behind one that does not nobody is.
func TestAskBehindPut(t *testing.T) {
	b := made(t, four)
	b.become(t, 2, 0)
	b.take(t, puts(0, 2, filled(4), true), toPutAck(0, 2))
	b.take(t, asks(getM, 1, 2, 8), toInv(0, 2, 8))
	b.take(t, refuses(0, 2, 5), toNack(1, 2, 5))
	b.take(t, asks(getS, 0, 2, 5), toData(0, 2, 2, filled(4)))
	b.take(t, saysDone(0, 2))
	b.take(t, puts(0, 2, filled(5), false), toPutAck(0, 2))
	b.take(t, asks(getS, 1, 2, 8), toData(1, 2, 2, filled(5)))
}

// P11.2: a refusal of one of several, whoever it is and whenever it comes: the entry is as it was, and none is under way.
func TestOneRefuses(t *testing.T) {
	for _, order := range [][]int{{0, 2, 3}, {0, 3, 2}, {2, 0, 3}, {2, 3, 0}, {3, 0, 2}, {3, 2, 0}} {
		for no := range 3 {
			for _, stamp := range []uint64{0, 1, 40, math.MaxUint64} {
				b := made(t, four)
				b.become(t, 3, 3, 0, 1, 2)
				b.take(t, asks(getM, 1, 3, 30), toInv(0, 3, 30), toInv(2, 3, 30), toInv(3, 3, 30))
				for i, core := range order {
					n := acks(core, 3)
					if i == no {
						n = refuses(core, 3, stamp)
					}
					if i == 2 {
						b.take(t, n, toNack(1, 3, stamp))
					} else {
						b.take(t, n)
						b.refuse(t, refuses(core, 3, 0), api.ErrState)
					}
				}
				if e, _ := b.home.Entry(3); e != (api.Entry{Owner: -1, Sharers: 15}) || b.home.Busy(3) {
					t.Error(e)
				}
				b.refuse(t, saysDone(1, 3), api.ErrState)
			}
		}
	}
}

// P11.2: of several refusals the least stamp is told, 0 as well, in whatever order they come.
func TestLeastStamp(t *testing.T) {
	for _, c := range []struct {
		stamps [3]uint64
		least  uint64
	}{
		{[3]uint64{5, 6, 7}, 5},
		{[3]uint64{7, 6, 5}, 5},
		{[3]uint64{6, 5, 7}, 5},
		{[3]uint64{5, 5, 5}, 5},
		{[3]uint64{0, 6, 7}, 0},
		{[3]uint64{6, 0, 7}, 0},
		{[3]uint64{6, 7, 0}, 0},
		{[3]uint64{0, 0, 0}, 0},
		{[3]uint64{math.MaxUint64, math.MaxUint64, math.MaxUint64}, math.MaxUint64},
		{[3]uint64{math.MaxUint64, 1 << 63, math.MaxUint64}, 1 << 63},
		{[3]uint64{1 << 32, 1<<32 + 1, 1<<33 - 1}, 1 << 32},
		{[3]uint64{1 << 40, 3 << 38, 9}, 9},
	} {
		b := made(t, four)
		b.become(t, 3, 3, 0, 1, 2)
		b.take(t, asks(getM, 1, 3, 6), toInv(0, 3, 6), toInv(2, 3, 6), toInv(3, 3, 6))
		b.take(t, refuses(2, 3, c.stamps[0]))
		b.take(t, refuses(0, 3, c.stamps[1]))
		b.take(t, refuses(3, 3, c.stamps[2]), toNack(1, 3, c.least))
		// Nothing of it is left for the next ask.
		b.take(t, asks(getM, 2, 3, 6), toInv(0, 3, 6), toInv(1, 3, 6), toInv(3, 3, 6))
		b.take(t, acks(1, 3))
		b.take(t, refuses(0, 3, 88))
		b.take(t, acks(3, 3), toNack(2, 3, 88))
		b.take(t, asks(getM, 0, 3, 6), toInv(1, 3, 6), toInv(2, 3, 6), toInv(3, 3, 6))
		b.take(t, acks(1, 3))
		b.take(t, acks(2, 3))
		b.take(t, acks(3, 3), toData(0, 3, 3, filled(1003)))
	}
}

// P11.2: what a core gave stays in memory, even if another one refuses, ahead of it or behind.
func TestDataBesideRefusal(t *testing.T) {
	for _, first := range []bool{false, true} {
		b := made(t, four)
		b.become(t, 3, 0, 1, 2)
		b.take(t, asks(getM, 1, 3, 6), toInv(0, 3, 6), toInv(2, 3, 6))
		if first {
			b.take(t, acksWith(0, 3, filled(7)))
			b.take(t, refuses(2, 3, 4), toNack(1, 3, 4))
		} else {
			b.take(t, refuses(2, 3, 4))
			b.take(t, acksWith(0, 3, filled(7)), toNack(1, 3, 4))
		}
		if x, _ := b.memory.Block(3); x != filled(7) {
			t.Error(x)
		}
		b.take(t, asks(getS, 3, 3, 6), toData(3, 3, 1, filled(7)))
	}
}

// reached are the entries of a block of four cores, by who asked for it.
func reached() [][]int {
	l := [][]int{nil}
	for set := 1; set < 16; set++ {
		var cores []int
		for core := range 4 {
			if set>>core&1 == 1 {
				cores = append(cores, core)
			}
		}
		l = append(l, cores)
	}
	return l
}

// asked is who must be asked for an ask of x, if these have the block.
func asked(have []int, kind uint8, x int) []int {
	if kind == getS && len(have) != 1 {
		return nil
	}
	return slices.DeleteFunc(slices.Clone(have), func(core int) bool { return core == x })
}

// P11.2, P11.5: of each entry of four cores each ask: who is asked, the State that x gets, what the entry is behind it.
func TestStates(t *testing.T) {
	for _, have := range reached() {
		for _, kind := range []uint8{getS, getM} {
			for x := range 4 {
				b := made(t, four)
				b.become(t, 1, have...)
				who := asked(have, kind, x)
				out, _ := b.send(t, asks(kind, x, 1, 3))
				for i, core := range who {
					if len(out) != len(who) && i == 0 || out[min(i, len(out)-1)].To != core {
						t.Fatal(have, kind, x, i, out)
					}
				}
				for _, core := range who {
					out, _ = b.send(t, acks(core, 1))
				}
				others := slices.DeleteFunc(slices.Clone(have), func(core int) bool { return core == x })
				state, next := api.StShared, api.Entry{Owner: x}
				if kind == getM {
					state = api.StOwn
				} else if len(others) == 0 {
					state = api.StAlone
				} else {
					next = api.Entry{Owner: -1, Sharers: 1 << x}
					for _, core := range others {
						next.Sharers |= 1 << core
					}
				}
				if len(out) != 1 || out[0] != toData(x, 1, state, filled(1001)) {
					t.Error(have, kind, x, out)
				}
				if e, _ := b.home.Entry(1); e != next {
					t.Error(have, kind, x, e, "not", next)
				}
				b.like(t)
			}
		}
	}
}

// P11.5: of each entry of four cores each ask, refused by each set of those who are asked: the entry is what it was, and who asked gets nothing.
func TestRefusedChangesNothing(t *testing.T) {
	for _, have := range reached() {
		for _, kind := range []uint8{getS, getM} {
			for x := range 4 {
				who := asked(have, kind, x)
				for set := 1; set < 1<<len(who); set++ {
					b := made(t, four)
					b.become(t, 1, have...)
					before, _ := b.home.Entry(1)
					out, _ := b.send(t, asks(kind, x, 1, 3))
					for i, core := range who {
						if set>>i&1 == 1 {
							out, _ = b.send(t, refuses(core, 1, uint64(10+i)))
						} else {
							out, _ = b.send(t, acks(core, 1))
						}
						if i < len(who)-1 && len(out) != 0 {
							t.Error(out)
						}
					}
					if len(out) != 1 || out[0].Kind != nack || out[0].To != x {
						t.Error(have, kind, x, set, out)
					}
					if e, _ := b.home.Entry(1); e != before || b.home.Busy(1) {
						t.Error(have, kind, x, set, e, "not", before)
					}
					b.like(t)
				}
			}
		}
	}
}

// P11.5: where a core owns a block, nothing but its own answer lets another one have it.
func TestOwnerIsAsked(t *testing.T) {
	for owner := range 4 {
		for x := range 4 {
			if x == owner {
				continue
			}
			for _, kind := range []uint8{getS, getM} {
				b := made(t, four)
				b.through(t, getM, owner, 2)
				question := toDown(owner, 2, 9)
				if kind == getM {
					question = toInv(owner, 2, 9)
				}
				b.take(t, asks(kind, x, 2, 9), question)
				for core := range 4 {
					for _, n := range toHome(core, 2)[4:] {
						if core != owner || n.Kind == done {
							b.refuse(t, n, api.ErrState)
						}
					}
					b.take(t, asks(getM, core, 2, 1))
					b.take(t, puts(core, 2, filled(3), false))
				}
				if e, _ := b.home.Entry(2); e != (api.Entry{Owner: owner}) {
					t.Error(e)
				}
				if out, _ := b.send(t, acksWith(owner, 2, filled(8))); len(out) != 1 || out[0].Kind != data || out[0].To != x || out[0].Data != filled(8) {
					t.Error(out)
				}
			}
		}
	}
}

// P11.2, P11.4: several that wait about one block begin in the order in which they came.
func TestWaitInOrder(t *testing.T) {
	b := made(t, four)
	b.take(t, asks(getS, 3, 0, 1), toData(3, 0, 2, filled(1000)))
	b.take(t, asks(getS, 1, 0, 2))
	b.take(t, asks(getM, 0, 0, 3))
	b.take(t, asks(getS, 2, 0, 0))
	b.take(t, asks(getM, 3, 0, 5))
	b.take(t, saysDone(3, 0), toDown(3, 0, 2))
	b.take(t, acks(3, 0), toData(1, 0, 1, filled(1000)))
	b.take(t, saysDone(1, 0), toInv(1, 0, 3), toInv(3, 0, 3))
	b.take(t, acks(3, 0))
	b.take(t, acks(1, 0), toData(0, 0, 3, filled(1000)))
	b.take(t, saysDone(0, 0), toDown(0, 0, 0))
	b.take(t, refuses(0, 0, 3), toNack(2, 0, 3), toInv(0, 0, 5))
	b.take(t, acksWith(0, 0, filled(1)), toData(3, 0, 3, filled(1)))
	if b.home.Waits() != 0 {
		t.Error(b.home.Waits())
	}
	b.take(t, saysDone(3, 0))
}

// P11.2: those that wait about two blocks, mixed, begin with their own block alone; others are not held up.
func TestWaitOfTwoBlocks(t *testing.T) {
	b := made(t, four)
	b.take(t, asks(getM, 0, 0, 0), toData(0, 0, 3, filled(1000)))
	b.take(t, asks(getM, 1, 3, 0), toData(1, 3, 3, filled(1003)))
	b.take(t, asks(getM, 2, 3, 21))
	b.take(t, asks(getM, 3, 0, 22))
	b.take(t, asks(getS, 0, 3, 23))
	b.take(t, asks(getS, 1, 0, 24))
	b.take(t, asks(getS, 3, 1, 0), toData(3, 1, 2, filled(1001)))
	b.take(t, saysDone(0, 0), toInv(0, 0, 22))
	b.take(t, acks(0, 0), toData(3, 0, 3, filled(1000)))
	b.take(t, saysDone(3, 1))
	b.take(t, saysDone(3, 0), toDown(3, 0, 24))
	b.take(t, saysDone(1, 3), toInv(1, 3, 21))
	b.take(t, refuses(1, 3, 4), toNack(2, 3, 4), toDown(1, 3, 23))
	b.take(t, acks(3, 0), toData(1, 0, 1, filled(1000)))
	b.take(t, acks(1, 3), toData(0, 3, 1, filled(1003)))
	b.take(t, saysDone(0, 3))
	b.take(t, saysDone(1, 0))
}

// P11.2: there is room for as many as cores times Backs and 1, of all blocks together; with none left blocks of which none is under way are asked for still.
func TestRoom(t *testing.T) {
	for _, p := range plans {
		b := made(t, p.c)
		last := p.data - 1
		b.send(t, asks(getM, 0, 0, 0))
		b.send(t, asks(getM, 0, last, 0))
		waits := b.home.Waits()
		for i := waits; i < p.room; i++ {
			if b.home.Waits() != i {
				t.Error(p, b.home.Waits(), i)
			}
			n := []api.Note{asks(getS, i%p.c.Cores, 0, 1), puts(i%p.c.Cores, last, filled(i), false), asks(getM, i%p.c.Cores, last, 0)}[i%3]
			if out, e := b.send(t, n); len(out) != 0 || e != api.OK {
				t.Error(p, n, out, e)
			}
		}
		for _, block := range []int{0, last} {
			for _, n := range toHome(p.c.Cores-1, block)[:4] {
				b.refuse(t, n, api.ErrBusy)
			}
		}
		if p.data > 2 {
			b.take(t, asks(getS, 0, 1, 0), toData(0, 1, 2, filled(1001)))
			b.take(t, puts(0, 2, filled(1), false), toPutAck(0, 2))
			b.refuse(t, asks(getS, 0, 1, 0), api.ErrBusy)
			b.take(t, saysDone(0, 1))
		}
		if b.home.Waits() != p.room {
			t.Error(p, b.home.Waits())
		}
		b.send(t, saysDone(0, 0))
		if b.home.Waits() >= p.room || b.home.Ready(asks(getS, 0, last, 0)) != api.OK {
			t.Error(p, b.home.Waits())
		}
		b.like(t)
	}
}

// P11.2: blocks that go back and wait are not under way when they begin, so the next ones begin as well, until one is, or nobody waits.
func TestOneBehindTheOther(t *testing.T) {
	b := made(t, four)
	b.take(t, asks(getM, 0, 0, 0), toData(0, 0, 3, filled(1000)))
	b.take(t, puts(1, 0, filled(1), false))
	b.take(t, puts(0, 0, filled(2), true))
	b.take(t, puts(0, 0, filled(3), false))
	b.take(t, puts(0, 0, filled(4), false))
	b.take(t, saysDone(0, 0), toPutAck(1, 0), toPutAck(0, 0), toPutAck(0, 0), toPutAck(0, 0))
	if x, _ := b.memory.Block(0); x != filled(3) || b.home.Waits() != 0 || b.home.Busy(0) {
		t.Error(x, b.home.Waits())
	}
}

// P11.2: the row of those that begin ends at the first one that is under way, and leaves those about other blocks.
func TestOneBehindTheOtherUntil(t *testing.T) {
	for _, refused := range []bool{false, true} {
		b := made(t, four)
		b.become(t, 0, 2)
		b.become(t, 1, 1)
		b.take(t, asks(getM, 3, 0, 8), toInv(2, 0, 8))
		b.take(t, asks(getM, 0, 1, 8), toInv(1, 1, 8))
		b.take(t, puts(1, 1, filled(9), false))
		b.take(t, puts(2, 0, filled(1), false))
		b.take(t, puts(1, 0, filled(2), true))
		b.take(t, asks(getS, 2, 1, 3))
		b.take(t, asks(getS, 1, 0, 3))
		b.take(t, puts(3, 0, filled(3), false))
		b.take(t, asks(getM, 2, 0, 4))
		if refused {
			// 2 owns it still, and what it sent back is taken.
			b.take(t, refuses(2, 0, 7), toNack(3, 0, 7), toPutAck(2, 0), toPutAck(1, 0), toData(1, 0, 2, filled(1)))
			b.take(t, saysDone(1, 0), toPutAck(3, 0), toInv(1, 0, 4))
			b.take(t, acks(1, 0), toData(2, 0, 3, filled(1)))
		} else {
			b.take(t, acksWith(2, 0, filled(6)), toData(3, 0, 3, filled(6)))
			b.take(t, saysDone(3, 0), toPutAck(2, 0), toPutAck(1, 0), toDown(3, 0, 3))
			b.take(t, acks(3, 0), toData(1, 0, 1, filled(6)))
			b.take(t, saysDone(1, 0), toPutAck(3, 0), toInv(1, 0, 4), toInv(3, 0, 4))
		}
		if b.home.Waits() != 2 {
			t.Error(b.home.Waits())
		}
		b.take(t, acks(1, 1), toData(0, 1, 3, filled(1001)))
		b.take(t, saysDone(0, 1), toPutAck(1, 1), toDown(0, 1, 3))
	}
}

// P11.2: asks that are refused one behind the other let one more begin each time.
func TestRefusedBehindRefused(t *testing.T) {
	b := made(t, four)
	b.through(t, getM, 0, 2)
	b.take(t, asks(getS, 1, 2, 11), toDown(0, 2, 11))
	b.take(t, asks(getM, 2, 2, 12))
	b.take(t, asks(getS, 3, 2, 13))
	b.take(t, asks(getS, 0, 2, 14))
	b.take(t, asks(getS, 1, 2, 15))
	b.take(t, refuses(0, 2, 5), toNack(1, 2, 5), toInv(0, 2, 12))
	b.take(t, refuses(0, 2, 5), toNack(2, 2, 5), toDown(0, 2, 13))
	b.take(t, refuses(0, 2, 5), toNack(3, 2, 5), toData(0, 2, 2, filled(1002)))
	b.take(t, saysDone(0, 2), toDown(0, 2, 15))
	b.take(t, refuses(0, 2, 0), toNack(1, 2, 0))
	if e, _ := b.home.Entry(2); e != (api.Entry{Owner: 0}) || b.home.Busy(2) || b.home.Waits() != 0 {
		t.Error(e)
	}
}

// P11.3: Entry and Busy of data blocks, of log blocks, and of ints that are no block.
func TestEntryAndBusy(t *testing.T) {
	for _, p := range plans {
		b := made(t, p.c)
		for block := range p.data {
			b.send(t, asks(getM, block%p.c.Cores, block, 0))
			if e, err := b.home.Entry(block); e != (api.Entry{Owner: block % p.c.Cores}) || err != api.OK || !b.home.Busy(block) {
				t.Error(block, e, err)
			}
		}
		for _, block := range slices.Concat(huge, []int{-1, -2, -3, p.data, p.data + 1, p.c.Blocks - 1, p.c.Blocks, p.c.Blocks + 1, 256, 257}) {
			if e, err := b.home.Entry(block); e != (api.Entry{}) || err != api.ErrRange || b.home.Busy(block) {
				t.Error("Entry", p, block, e, err)
			}
		}
	}
}

// P11.3: a copy is the same, and each one goes on apart.
func TestCopy(t *testing.T) {
	b := busied(t, false)
	b.take(t, asks(getS, 0, 1, 50))
	b.take(t, puts(2, 2, filled(60), false))
	b.take(t, refuses(2, 1, 8))
	c := b.copy(t)
	c.like(t)
	b.like(t)
	// What the copy takes the first one does not have.
	c.take(t, refuses(0, 1, 9), toNack(3, 1, 8), toData(0, 1, 1, filled(1001)))
	c.take(t, saysDone(2, 2), toPutAck(2, 2))
	c.take(t, asks(getS, 0, 2, 0), toData(0, 2, 2, filled(60)))
	c.take(t, saysDone(0, 1))
	c.take(t, asks(getM, 1, 0, 0), toData(1, 0, 3, filled(1000)))
	b.like(t)
	if x, _ := b.memory.Block(2); x != filled(1002) || b.home.Waits() != 2 || c.home.Waits() != 0 {
		t.Error(x, b.home.Waits(), c.home.Waits())
	}
	// And the other way round.
	b.take(t, acksWith(0, 1, filled(61)), toNack(3, 1, 8), toData(0, 1, 1, filled(61)))
	b.take(t, asks(getM, 3, 0, 0), toData(3, 0, 3, filled(1000)))
	b.take(t, asks(getM, 3, 0, 0))
	c.like(t)
	c.take(t, asks(getS, 3, 1, 0), toData(3, 1, 1, filled(1001)))
	b.like(t)
}

// P11.3: a copy has as much room, and its own.
func TestCopyRoom(t *testing.T) {
	b := busied(t, true)
	c := b.copy(t)
	c.refuse(t, asks(getS, 0, 1, 0), api.ErrBusy)
	c.take(t, refuses(0, 1, 9))
	c.send(t, refuses(2, 1, 9))
	for c.home.Waits() < 12 {
		c.send(t, asks(getS, 3, 2, 0))
	}
	c.refuse(t, asks(getS, 0, 2, 0), api.ErrBusy)
	b.refuse(t, asks(getS, 0, 2, 0), api.ErrBusy)
	b.like(t)
	fresh := made(t, four).copy(t)
	fresh.like(t)
	fresh.take(t, asks(getS, 0, 0, 0), toData(0, 0, 2, filled(1000)))
	for i := range 12 {
		fresh.take(t, asks(getS, i%4, 0, 0))
	}
	fresh.refuse(t, asks(getS, 0, 0, 0), api.ErrBusy)
}

// P11.3: what is written into the first one's memory, as cores' logs are, is not in the copy's.
func TestCopyMemory(t *testing.T) {
	b := made(t, four)
	c := b.copy(t)
	for block := range 12 {
		b.memory.SetBlock(block, filled(block))
		b.model.memory[block] = filled(block)
	}
	b.take(t, asks(getS, 0, 3, 0), toData(0, 3, 2, filled(3)))
	c.take(t, asks(getS, 0, 3, 0), toData(0, 3, 2, filled(1003)))
}

// P11.1: the memory is the one that was handed in, not a copy: logs may be written there, and what goes back is there.
func TestMemoryIsShared(t *testing.T) {
	b := made(t, four)
	b.become(t, 3, 1)
	for block := 4; block < 12; block++ {
		b.memory.SetBlock(block, filled(block))
		b.model.memory[block] = filled(block)
	}
	b.take(t, puts(1, 3, filled(70), false), toPutAck(1, 3))
	if x, _ := b.memory.Block(3); x != filled(70) {
		t.Error(x)
	}
}

// R3: what goes out is the taker's: writing there changes nothing of the home.
func TestOutIsNew(t *testing.T) {
	b := made(t, four)
	b.become(t, 0, 0, 1, 2)
	for range 2 {
		out, _ := b.home.Take(asks(getM, 3, 0, 4))
		want, _ := b.model.take(asks(getM, 3, 0, 4))
		if !slices.Equal(out, want) || len(out) != 3 {
			t.Error(out)
		}
		for i := range out {
			out[i] = toNack(9, 9, 9)
		}
		_ = append(out[:0], toPutAck(1, 1))
		b.like(t)
		b.take(t, acks(0, 0))
		b.take(t, acks(1, 0))
		b.take(t, refuses(2, 0, 6), toNack(3, 0, 6))
	}
}

// The chapter's examples.
func TestExamples(t *testing.T) {
	b := made(t, small)
	was := filled(1005)
	b.take(t, asks(getS, 0, 5, 0), toData(0, 5, api.StAlone, was))
	b.take(t, asks(getM, 1, 5, 0))
	if b.home.Waits() != 1 {
		t.Error(b.home.Waits())
	}
	b.take(t, saysDone(0, 5), toInv(0, 5, 0))
	b.take(t, acksWith(0, 5, filled(2)), toData(1, 5, api.StOwn, filled(2)))
	b.take(t, saysDone(1, 5))
	b.take(t, asks(getS, 0, 5, 0), toDown(1, 5, 0))
	b.take(t, refuses(1, 5, 7), toNack(0, 5, 7))
}
