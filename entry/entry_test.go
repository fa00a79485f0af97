package entry_test

import (
	"iter"
	"math"
	"testing"

	"undertow/api"
	"undertow/entry"
)

// The kinds of asks, by the document's numbers.
const (
	getS uint8 = 1
	getM uint8 = 2
)

// kinds are those of asks.
var kinds = []uint8{getS, getM}

// noCores are numbers next to those of cores, huge ones, and such as are like a core's if upper bits were dropped.
var noCores = []int{
	-1, -2, -3, -15, -16, -17, 16, 17, 31, 32, 33, 64,
	math.MinInt, math.MinInt + 1, math.MinInt + 15, math.MinInt32, math.MaxInt, math.MaxInt - 15, math.MaxInt32, math.MaxUint32,
	1 << 8, 1<<8 + 1, 1<<8 - 1, 1 << 16, 1<<16 + 2, 1 << 32, 1<<32 + 3, 1<<32 - 1, 1 << 62, 1<<62 + 15,
	-1 << 8, 1 - 1<<8, -1 << 16, 2 - 1<<16, -1 << 32, 3 - 1<<32, -1 << 62, 15 - 1<<62,
}

// cores is a set of them, core by core.
type cores [16]bool

func of(l ...int) cores {
	var s cores
	for _, n := range l {
		s[n] = true
	}
	return s
}

// all is the set of all sixteen.
var all = of(0, 1, 2, 3, 4, 5, 6, 7, 8, 9, 10, 11, 12, 13, 14, 15)

// mask is the set as the document has it: the core n has the weight 2 to the power of n.
func (s cores) mask() api.Mask {
	sum, weight := api.Mask(0), api.Mask(1)
	for _, is := range s {
		if is {
			sum += weight
		}
		weight *= 2
	}
	return sum
}

// coresOf is the set that a mask is, which has no number above 15.
func coresOf(m api.Mask) cores {
	var s cores
	for n := range s {
		s[n] = m%2 == 1
		m /= 2
	}
	return s
}

func (s cores) many() int {
	many := 0
	for _, is := range s {
		if is {
			many++
		}
	}
	return many
}

// owned is the entry of an owner, shared the one of sharers.
func owned(x int) api.Entry { return api.Entry{Owner: x} }

func shared(l ...int) api.Entry { return api.Entry{Owner: -1, Sharers: of(l...).mask()} }

// free is the free entry, full the one of all sharers.
var (
	free = api.Entry{Owner: -1}
	full = api.Entry{Owner: -1, Sharers: 0xffff}
)

// mayBe are all entries that may be.
func mayBe() []api.Entry {
	l := make([]api.Entry, 0, 16+1<<16)
	for x := range 16 {
		l = append(l, owned(x))
	}
	for m := range api.Mask(1 << 16) {
		l = append(l, api.Entry{Owner: -1, Sharers: m})
	}
	return l
}

// asking is an ask of an entry.
type asking struct {
	e    api.Entry
	kind uint8
	x    int
}

// everyAsk goes over each core's asks, of each entry that may be.
func everyAsk() iter.Seq[asking] {
	return func(yield func(asking) bool) {
		for _, e := range mayBe() {
			for x := range 16 {
				for _, kind := range kinds {
					if !yield(asking{e, kind, x}) {
						return
					}
				}
			}
		}
	}
}

// mayNotBe are entries that may not be.
func mayNotBe() []api.Entry {
	var l []api.Entry
	for _, x := range noCores {
		for _, m := range []api.Mask{0, 1, 2, 1 << 15, 1 << 16, 1 << 31, 0xffff, 0xffffffff} {
			if x != -1 || m > 0xffff {
				l = append(l, api.Entry{Owner: x, Sharers: m})
			}
		}
	}
	for n := range 32 {
		bit := api.Mask(1) << n
		if n > 15 {
			l = append(l, api.Entry{Owner: -1, Sharers: bit}, api.Entry{Owner: -1, Sharers: bit | 1}, api.Entry{Owner: -1, Sharers: bit | 0xffff})
		}
		for x := range 16 {
			l = append(l, api.Entry{Owner: x, Sharers: bit}, api.Entry{Owner: x, Sharers: bit | 1<<x}, api.Entry{Owner: x, Sharers: ^bit})
		}
	}
	return l
}

// someOf are entries of each sort: free, owned, of one sharer, of some and of all.
func someOf() []api.Entry {
	return []api.Entry{free, full, owned(0), owned(1), owned(7), owned(15), shared(0), shared(1), shared(15), shared(0, 1), shared(0, 15), shared(3, 7, 8)}
}

// asked is who must be asked, by the chapter's words.
func asked(a asking) cores {
	var who cores
	if a.e.Owner != -1 && a.e.Owner != a.x {
		who[a.e.Owner] = true
	} else if a.kind == getM {
		who = coresOf(a.e.Sharers)
		who[a.x] = false
	}
	return who
}

// gets is what an ask makes of an entry and what x gets, by the chapter's words.
func gets(a asking) (api.Entry, api.State) {
	if a.kind == getM {
		return owned(a.x), 3
	}
	if a.e.Owner != -1 && a.e.Owner != a.x {
		return shared(a.e.Owner, a.x), 1
	}
	who := coresOf(a.e.Sharers)
	who[a.x] = false
	if who.many() == 0 {
		return owned(a.x), 2
	}
	who[a.x] = true
	return api.Entry{Owner: -1, Sharers: who.mask()}, 1
}

func TestNumbersOfTheDocument(t *testing.T) {
	if api.OK != 0 || api.ErrArg != 2 || api.MaxCores != 16 || api.Home != -1 {
		t.Error(api.OK, api.ErrArg, api.MaxCores, api.Home)
	}
	if api.NtGetS != getS || api.NtGetM != getM || api.NtDown != 4 || api.NtInv != 5 {
		t.Error(api.NtGetS, api.NtGetM, api.NtDown, api.NtInv)
	}
	if api.StNone != 0 || api.StShared != 1 || api.StAlone != 2 || api.StOwn != 3 {
		t.Error(api.StNone, api.StShared, api.StAlone, api.StOwn)
	}
}

// The tests' own sets, there and back.
func TestSetsOfCores(t *testing.T) {
	if all.mask() != 0xffff || coresOf(0xffff) != all || of(0, 15).mask() != 0x8001 || coresOf(0x8001) != of(0, 15) {
		t.Error(all.mask(), of(0, 15).mask())
	}
}

// P10.1: no owner, no sharers.
func TestFree(t *testing.T) {
	for range 2 {
		if e := entry.Free(); e.Owner != -1 || e.Sharers != 0 {
			t.Error(e)
		}
	}
	if f := entry.May(entry.Free()); f != api.OK {
		t.Error(f)
	}
}

// P10.1: the edges.
func TestMay(t *testing.T) {
	for _, c := range []struct {
		e    api.Entry
		want api.Errno
	}{
		{api.Entry{}, api.OK},
		{api.Entry{Owner: -1}, api.OK},
		{api.Entry{Owner: 0}, api.OK},
		{api.Entry{Owner: 15}, api.OK},
		{api.Entry{Owner: -2}, api.ErrArg},
		{api.Entry{Owner: 16}, api.ErrArg},
		{api.Entry{Owner: 17}, api.ErrArg},
		{api.Entry{Owner: 31}, api.ErrArg},
		{api.Entry{Owner: math.MinInt}, api.ErrArg},
		{api.Entry{Owner: math.MaxInt}, api.ErrArg},
		{api.Entry{Owner: -1, Sharers: 1}, api.OK},
		{api.Entry{Owner: -1, Sharers: 1 << 15}, api.OK},
		{api.Entry{Owner: -1, Sharers: 0xffff}, api.OK},
		{api.Entry{Owner: -1, Sharers: 1 << 16}, api.ErrArg},
		{api.Entry{Owner: -1, Sharers: 1<<16 | 1}, api.ErrArg},
		{api.Entry{Owner: -1, Sharers: 1<<16 | 1<<15}, api.ErrArg},
		{api.Entry{Owner: -1, Sharers: 1 << 31}, api.ErrArg},
		{api.Entry{Owner: -1, Sharers: 0xffffffff}, api.ErrArg},
		{api.Entry{Owner: 0, Sharers: 1}, api.ErrArg},
		{api.Entry{Owner: 0, Sharers: 2}, api.ErrArg},
		{api.Entry{Owner: 15, Sharers: 1 << 15}, api.ErrArg},
		{api.Entry{Owner: 3, Sharers: 0xffff}, api.ErrArg},
		{api.Entry{Owner: 3, Sharers: 1 << 16}, api.ErrArg},
		{api.Entry{Owner: -2, Sharers: 1}, api.ErrArg},
		{api.Entry{Owner: 16, Sharers: 1}, api.ErrArg},
	} {
		if f := entry.May(c.e); f != c.want {
			t.Error(c.e, f, "not", c.want)
		}
	}
}

// P10.1: each entry that may be, and many that may not.
func TestMayOfAll(t *testing.T) {
	for _, e := range mayBe() {
		if f := entry.May(e); f != api.OK {
			t.Fatal(e, f)
		}
	}
	for _, e := range mayNotBe() {
		if f := entry.May(e); f != api.ErrArg {
			t.Fatal(e, f)
		}
	}
}

// ask is one with what is answered.
type ask struct {
	asking
	who   cores
	next  api.Entry
	state api.State
}

// asks are the edges that the chapter names, for both kinds.
var asks = []ask{
	// Nobody has it.
	{asking{free, getS, 0}, of(), owned(0), 2},
	{asking{free, getS, 15}, of(), owned(15), 2},
	{asking{free, getM, 0}, of(), owned(0), 3},
	{asking{free, getM, 15}, of(), owned(15), 3},
	// The owner is x.
	{asking{owned(0), getS, 0}, of(), owned(0), 2},
	{asking{owned(4), getS, 4}, of(), owned(4), 2},
	{asking{owned(15), getS, 15}, of(), owned(15), 2},
	{asking{owned(0), getM, 0}, of(), owned(0), 3},
	{asking{owned(4), getM, 4}, of(), owned(4), 3},
	{asking{owned(15), getM, 15}, of(), owned(15), 3},
	// The owner is another one.
	{asking{owned(0), getS, 15}, of(0), shared(0, 15), 1},
	{asking{owned(15), getS, 0}, of(15), shared(0, 15), 1},
	{asking{owned(6), getS, 5}, of(6), shared(5, 6), 1},
	{asking{owned(0), getM, 15}, of(0), owned(15), 3},
	{asking{owned(15), getM, 0}, of(15), owned(0), 3},
	{asking{owned(6), getM, 5}, of(6), owned(5), 3},
	// x alone is a sharer.
	{asking{shared(0), getS, 0}, of(), owned(0), 2},
	{asking{shared(9), getS, 9}, of(), owned(9), 2},
	{asking{shared(15), getS, 15}, of(), owned(15), 2},
	{asking{shared(0), getM, 0}, of(), owned(0), 3},
	{asking{shared(9), getM, 9}, of(), owned(9), 3},
	{asking{shared(15), getM, 15}, of(), owned(15), 3},
	// x and others are.
	{asking{shared(0, 1), getS, 0}, of(), shared(0, 1), 1},
	{asking{shared(2, 9, 15), getS, 9}, of(), shared(2, 9, 15), 1},
	{asking{shared(0, 1), getM, 0}, of(1), owned(0), 3},
	{asking{shared(2, 9, 15), getM, 9}, of(2, 15), owned(9), 3},
	// Others alone are.
	{asking{shared(0), getS, 1}, of(), shared(0, 1), 1},
	{asking{shared(15), getS, 0}, of(), shared(0, 15), 1},
	{asking{shared(2, 15), getS, 9}, of(), shared(2, 9, 15), 1},
	{asking{shared(0), getM, 1}, of(0), owned(1), 3},
	{asking{shared(15), getM, 0}, of(15), owned(0), 3},
	{asking{shared(2, 15), getM, 9}, of(2, 15), owned(9), 3},
	// All sixteen are.
	{asking{full, getS, 0}, of(), full, 1},
	{asking{full, getS, 8}, of(), full, 1},
	{asking{full, getS, 15}, of(), full, 1},
	{asking{full, getM, 0}, of(1, 2, 3, 4, 5, 6, 7, 8, 9, 10, 11, 12, 13, 14, 15), owned(0), 3},
	{asking{full, getM, 15}, of(0, 1, 2, 3, 4, 5, 6, 7, 8, 9, 10, 11, 12, 13, 14), owned(15), 3},
}

// by is the kind by which those are asked who must be.
func by(kind uint8) uint8 {
	if kind == getS {
		return 4
	}
	return 5
}

// P10.2: the edges.
func TestAsks(t *testing.T) {
	for _, a := range asks {
		if who, note, f := entry.Asked(a.e, a.kind, a.x); who != a.who.mask() || note != by(a.kind) || f != api.OK {
			t.Error("Asked", a.e, a.kind, a.x, who, note, f)
		}
		if next, state, f := entry.Gets(a.e, a.kind, a.x); next != a.next || state != a.state || f != api.OK {
			t.Error("Gets", a.e, a.kind, a.x, next, state, f)
		}
	}
}

// P10.2: of each entry that may be, each core's asks.
func TestAsksOfAll(t *testing.T) {
	for a := range everyAsk() {
		who, note, f := entry.Asked(a.e, a.kind, a.x)
		if want := asked(a).mask(); who != want || note != by(a.kind) || f != api.OK {
			t.Fatal("Asked", a, who, note, f, "not", want)
		}
		next, state, f := entry.Gets(a.e, a.kind, a.x)
		if want, got := gets(a); next != want || state != got || f != api.OK {
			t.Fatal("Gets", a, next, state, f, "not", want, got)
		}
	}
}

// refused tells of an ask that may not be; beside the error all is zero (R2).
func refused(t *testing.T, e api.Entry, kind uint8, x int) {
	t.Helper()
	if who, note, f := entry.Asked(e, kind, x); who != 0 || note != 0 || f != api.ErrArg {
		t.Error("Asked", e, kind, x, who, note, f)
	}
	if next, state, f := entry.Gets(e, kind, x); next != (api.Entry{}) || state != 0 || f != api.ErrArg {
		t.Error("Gets", e, kind, x, next, state, f)
	}
}

// P10.2, R2: entries that may not be.
func TestAsksOfNoEntry(t *testing.T) {
	for _, e := range mayNotBe() {
		for x := range 16 {
			refused(t, e, getS, x)
			refused(t, e, getM, x)
		}
	}
}

// P10.2, R2: each kind that is no ask.
func TestAsksOfNoKind(t *testing.T) {
	for kind := range 256 {
		for _, e := range someOf() {
			for _, x := range []int{0, 1, 7, 15} {
				if kind != 1 && kind != 2 {
					refused(t, e, uint8(kind), x)
				}
			}
		}
	}
}

// P10.2, R2: cores that are none.
func TestAsksOfNoCore(t *testing.T) {
	for _, x := range noCores {
		for _, e := range someOf() {
			refused(t, e, getS, x)
			refused(t, e, getM, x)
		}
	}
}

// P10.2, P10.3, R1, R2: whatever is wrong together.
func TestAllWrong(t *testing.T) {
	for _, e := range mayNotBe() {
		for _, x := range []int{-1, 16, math.MinInt, math.MaxInt} {
			for _, kind := range []uint8{0, 1, 2, 3, 255} {
				refused(t, e, kind, x)
			}
			notBack(t, e, x)
		}
	}
}

// P10.3: the edges.
func TestBack(t *testing.T) {
	for _, c := range []struct {
		e     api.Entry
		x     int
		stick bool
		next  api.Entry
		taken bool
	}{
		{owned(0), 0, false, free, true},
		{owned(0), 0, true, owned(0), true},
		{owned(15), 15, false, free, true},
		{owned(15), 15, true, owned(15), true},
		{owned(0), 15, false, owned(0), false},
		{owned(0), 15, true, owned(0), false},
		{owned(15), 0, false, owned(15), false},
		{owned(15), 0, true, owned(15), false},
		{free, 0, false, free, false},
		{free, 0, true, free, false},
		{free, 15, false, free, false},
		{free, 15, true, free, false},
		{shared(3), 3, false, shared(3), false},
		{shared(3), 3, true, shared(3), false},
		{shared(3), 4, false, shared(3), false},
		{shared(3), 4, true, shared(3), false},
		{shared(0, 3), 0, false, shared(0, 3), false},
		{shared(0, 3), 0, true, shared(0, 3), false},
		{full, 7, false, full, false},
		{full, 7, true, full, false},
	} {
		if next, taken, f := entry.Back(c.e, c.x, c.stick); next != c.next || taken != c.taken || f != api.OK {
			t.Error(c.e, c.x, c.stick, next, taken, f)
		}
	}
}

// P10.3: of each entry that may be, each core's block.
func TestBackOfAll(t *testing.T) {
	for _, e := range mayBe() {
		for x := range 16 {
			for _, stick := range []bool{false, true} {
				want := e
				if e.Owner == x && !stick {
					want = free
				}
				if next, taken, f := entry.Back(e, x, stick); next != want || taken != (e.Owner == x) || f != api.OK {
					t.Fatal(e, x, stick, next, taken, f)
				}
			}
		}
	}
}

// notBack tells of a block that can't go back; beside the error all is zero (R2).
func notBack(t *testing.T, e api.Entry, x int) {
	t.Helper()
	for _, stick := range []bool{false, true} {
		if next, taken, f := entry.Back(e, x, stick); next != (api.Entry{}) || taken || f != api.ErrArg {
			t.Error("Back", e, x, stick, next, taken, f)
		}
	}
}

// P10.3, R2: entries that may not be.
func TestBackOfNoEntry(t *testing.T) {
	for _, e := range mayNotBe() {
		for x := range 16 {
			notBack(t, e, x)
		}
	}
}

// P10.3, R2: cores that are none.
func TestBackOfNoCore(t *testing.T) {
	for _, x := range noCores {
		for _, e := range someOf() {
			notBack(t, e, x)
		}
	}
}

// answers are those of both calls of an ask that may be.
func (a asking) answers(t *testing.T) (cores, api.Entry, api.State) {
	t.Helper()
	who, _, f := entry.Asked(a.e, a.kind, a.x)
	next, state, g := entry.Gets(a.e, a.kind, a.x)
	if f != api.OK || g != api.OK || who > 0xffff {
		t.Fatal(a, who, f, g)
	}
	return coresOf(who), next, state
}

func backOf(t *testing.T, e api.Entry, x int, stick bool) (api.Entry, bool) {
	t.Helper()
	next, taken, f := entry.Back(e, x, stick)
	if f != api.OK {
		t.Fatal(e, x, stick, f)
	}
	return next, taken
}

// known is the owner and the sharers.
func known(e api.Entry) cores {
	who := coresOf(e.Sharers)
	if e.Owner != -1 {
		who[e.Owner] = true
	}
	return who
}

// P10.4: of each entry that may be: what comes of it may be one, and what is known behind each answer.
func TestBehindAnAsk(t *testing.T) {
	for a := range everyAsk() {
		who, next, state := a.answers(t)
		if entry.May(next) != api.OK || who[a.x] {
			t.Fatal(a, who, next)
		}
		right := false
		switch state {
		case api.StAlone, api.StOwn:
			right = next.Owner == a.x && known(next) == of(a.x)
		case api.StShared:
			right = next.Owner == -1 && coresOf(next.Sharers)[a.x] && known(next).many() > 1
		}
		if !right || (state == api.StOwn) != (a.kind == getM) {
			t.Fatal(a, next, state)
		}
	}
}

// P10.4: a block that goes back makes of each entry one that may be, and makes nobody known.
func TestBehindABack(t *testing.T) {
	for _, e := range mayBe() {
		for x := range 16 {
			for _, stick := range []bool{false, true} {
				next, taken := backOf(t, e, x, stick)
				if entry.May(next) != api.OK || next != e && (next != free || !taken || stick) {
					t.Fatal(e, x, stick, next)
				}
			}
		}
	}
}

// P10.4: all that comes of any row of asks and goings back, from the free entry on, may be. Of one sharer alone nothing comes.
func TestAnyRow(t *testing.T) {
	reached := map[api.Entry]bool{free: true}
	row := []api.Entry{free}
	for len(row) > 0 {
		e := row[len(row)-1]
		row = row[:len(row)-1]
		if entry.May(e) != api.OK || e.Owner == -1 && known(e).many() == 1 {
			t.Fatal(e)
		}
		for x := range 16 {
			_, reads, _ := asking{e, getS, x}.answers(t)
			_, writes, _ := asking{e, getM, x}.answers(t)
			goes, _ := backOf(t, e, x, false)
			sticks, _ := backOf(t, e, x, true)
			for _, next := range []api.Entry{reads, writes, goes, sticks} {
				if !reached[next] {
					reached[next] = true
					row = append(row, next)
				}
			}
		}
	}
	// The free one, those of 16 owners, and of two sharers or more.
	if want := 1 + 16 + 1<<16 - 1 - 16; len(reached) != want {
		t.Error(len(reached), "not", want)
	}
}

// P10.5: of each entry that may be: who may have something is asked, or known still; nobody else is asked.
func TestNobodyForgotten(t *testing.T) {
	for a := range everyAsk() {
		before := known(a.e)
		who, next, _ := a.answers(t)
		sharers := coresOf(next.Sharers)
		for n, may := range before {
			if may && !who[n] && n != a.x && (a.kind == getM || !sharers[n]) {
				t.Fatal(a, n, "is forgotten", next)
			}
			if who[n] && !may {
				t.Fatal(a, n, "is asked", who)
			}
		}
	}
}

// held is an entry, and what each core really has of the block.
type held struct {
	e    api.Entry
	have [16]api.State
}

// P10.4, P10.5: in long rows of asks, goings back and losses of which the entry is told nothing, whoever has something is known, and who may write is alone.
func TestWhoHasIsKnown(t *testing.T) {
	for many := 1; many <= 16; many++ {
		m := uint32(many)
		next := func(below int) int {
			m = m*1664525 + 1013904223
			return int(m>>8) % below
		}
		h := held{e: entry.Free()}
		for i := range 4000 {
			switch x := next(many); next(4) {
			case 0, 1:
				h.ask(t, kinds[next(2)], x, next(2) == 0)
			case 2:
				h.lose(t, x, next(2) == 0)
			case 3:
				h.e, _ = backOf(t, h.e, next(many), true)
			}
			if h.check(t); t.Failed() {
				t.Fatal(many, i, h)
			}
		}
	}
}

// ask asks those who must be, who do as they are told (or, of NtDown, give more than they must), and lets x have what it gets.
func (h *held) ask(t *testing.T, kind uint8, x int, more bool) {
	t.Helper()
	who, note, _ := entry.Asked(h.e, kind, x)
	for n, is := range coresOf(who) {
		if is && (note == api.NtInv || more) {
			h.have[n] = api.StNone
		} else if is && note == api.NtDown && h.have[n] != api.StNone {
			h.have[n] = api.StShared
		}
	}
	_, h.e, h.have[x] = asking{h.e, kind, x}.answers(t)
}

// lose lets x have the block no more; of one that it owned the entry is told, if it is to be.
func (h *held) lose(t *testing.T, x int, tell bool) {
	t.Helper()
	owns := h.have[x] == api.StAlone || h.have[x] == api.StOwn
	h.have[x] = api.StNone
	if owns && tell {
		next, taken := backOf(t, h.e, x, false)
		if !taken || next != free {
			t.Error(h.e, x, next, taken)
		}
		h.e = next
	}
}

func (h *held) check(t *testing.T) {
	t.Helper()
	who := known(h.e)
	many, alone := 0, false
	for n, state := range h.have {
		if state != api.StNone {
			many++
			alone = alone || state != api.StShared
			if !who[n] {
				t.Error(n, "has it, and is not known")
			}
		}
	}
	if alone && (many != 1 || h.e.Owner == -1) {
		t.Error("nobody is alone")
	}
}

// R3, R5: what is asked again, in whatever order, is answered the same.
func TestAgain(t *testing.T) {
	for range 2 {
		for i := range asks {
			a := asks[len(asks)-1-i]
			e := a.e
			entry.Back(e, a.x, false)
			entry.Asked(a.next, getM, 15-a.x)
			entry.Gets(a.next, getS, 15-a.x)
			entry.Gets(api.Entry{Owner: 99}, 7, -4)
			who, next, state := a.answers(t)
			if who != a.who || next != a.next || state != a.state || e != a.e || entry.Free() != free {
				t.Error(a, who, next, state, e)
			}
		}
	}
}

// The chapter's examples.
func TestExamples(t *testing.T) {
	for _, c := range []struct {
		e    api.Entry
		kind uint8
		x    int
		who  cores
		by   uint8
	}{
		{owned(2), api.NtGetS, 1, of(2), api.NtDown},
		{shared(0, 1, 3), api.NtGetM, 1, of(0, 3), api.NtInv},
		{shared(0, 1), api.NtGetS, 2, of(), api.NtDown},
	} {
		if who, note, f := entry.Asked(c.e, c.kind, c.x); who != c.who.mask() || note != c.by || f != api.OK {
			t.Error("Asked", c.e, c.kind, c.x, who, note, f)
		}
	}
	for _, c := range []struct {
		e     api.Entry
		kind  uint8
		x     int
		next  api.Entry
		state api.State
	}{
		{free, api.NtGetS, 1, owned(1), api.StAlone},
		{owned(2), api.NtGetS, 1, shared(1, 2), api.StShared},
		{shared(0, 1), api.NtGetM, 1, owned(1), api.StOwn},
	} {
		if next, state, f := entry.Gets(c.e, c.kind, c.x); next != c.next || state != c.state || f != api.OK {
			t.Error("Gets", c.e, c.kind, c.x, next, state, f)
		}
	}
	for _, c := range []struct {
		x     int
		stick bool
		next  api.Entry
		taken bool
	}{{2, false, free, true}, {2, true, owned(2), true}, {1, false, owned(2), false}} {
		if next, taken, f := entry.Back(owned(2), c.x, c.stick); next != c.next || taken != c.taken || f != api.OK {
			t.Error("Back", c.x, c.stick, next, taken, f)
		}
	}
}
