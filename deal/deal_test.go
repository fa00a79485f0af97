package deal_test

import (
	"math"
	"slices"
	"testing"

	"undertow/api"
	"undertow/deal"
	"undertow/order"
)

// huge are numbers far from all depths, and such as are like small ones if upper bits were dropped.
var huge = []int{
	math.MinInt, math.MinInt + 1, math.MinInt32, math.MaxInt, math.MaxInt - 1, math.MaxInt32, math.MaxUint32,
	1 << 8, 1<<8 + 1, 1<<8 + 3, 1 << 16, 1<<16 + 1, 1 << 32, 1<<32 + 1, 1<<32 + 3, 1<<32 - 1, 1 << 62, 1<<62 + 1,
	-1 << 8, 1 - 1<<8, 3 - 1<<8, -1 << 16, 1 - 1<<16, -1 << 32, 1 - 1<<32, 3 - 1<<32, -1 << 62, -1<<62 - 1,
}

// rising are stamps, the oldest first: small ones, and such as are like others if upper bits were dropped, or a bit were a sign.
var rising = []uint64{
	1, 2, 3, 7, 9, 255, 256, 257, math.MaxInt32, 1 << 31, math.MaxUint32, 1 << 32, 1<<32 + 1, 1<<32 + 7, 1 << 53,
	math.MaxInt64, 1 << 63, 1<<63 + 7, math.MaxUint64 - 1, math.MaxUint64,
}

// stamps are nobody's, and those.
var stamps = append([]uint64{0}, rising...)

var yesAndNo = []bool{true, false}

// causes are those of the document, with codes above them or without, and some that there are not; conflicts are those whose lowest eight bits are CauseConflict.
var causes, conflicts = []uint32{
	2, 3, 4, 5, 0x102, 0x105, 0, 6, 7, 8, 0x10, 0x11, 0x21, 0x41, 0x81, 0xff, 0x80,
	0x100, 0x1000, 0x10000, 0x1000000, 0x1fe, 0x100ff, math.MaxUint32, math.MaxUint32 - 1, 1 << 31, 0xffffff00, 0x01010100, 0x01010102,
}, []uint32{1, 0x101, 0x201, 0x501, 0x10001, 0x01000001, 0x01010101, 0xffffff01, 1<<31 + 1}

// save is one of which no two are alike.
func save(n int) api.Save {
	s := api.Save{Handler: 1000 + n}
	for i := range s.Regs {
		s.Regs[i] = 0x80000000 + uint32(n)<<8 + uint32(i)
	}
	return s
}

// both are a deal, and what the chapter says of it.
type both struct {
	deal *deal.Deal
	want *wanted
}

// wanted has what was saved by each one that is open, the outermost one first; the causes for which it is failing: none, or one.
type wanted struct {
	nest  int
	saves []api.Save
	stamp uint64
	flag  bool
	fails []uint32
}

func (w *wanted) open() bool { return len(w.saves) > 0 }

// goes tells whether one is open that is not failing.
func (w *wanted) goes() bool { return w.open() && len(w.fails) == 0 }

// own is the stamp of the one that is open.
func (w *wanted) own() uint64 {
	if w.open() {
		return w.stamp
	}
	return 0
}

func made(t *testing.T, nest int) both {
	t.Helper()
	d, e := deal.New(nest)
	if d == nil || e != api.OK {
		t.Fatal("New", nest, d, e)
	}
	return both{d, &wanted{nest: nest}}
}

func (b both) copied() both {
	w := *b.want
	w.saves, w.fails = slices.Clone(w.saves), slices.Clone(w.fails)
	return both{b.deal.Copy(), &w}
}

// begin, end, fail, over, asked and refused do the same to both.
func (b both) begin(t *testing.T, s api.Save, stamp uint64) {
	t.Helper()
	w, want := b.want, api.OK
	switch {
	case stamp == 0:
		want = api.ErrArg
	case len(w.fails) > 0:
		want = api.ErrState
	case len(w.saves) == w.nest:
		want = api.ErrFull
	default:
		if w.stamp == 0 {
			w.stamp = stamp
		}
		w.saves = append(w.saves, s)
	}
	if e := b.deal.Begin(s, stamp); e != want {
		t.Error("Begin", stamp, e, "not", want)
	}
	b.like(t)
}

func (b both) end(t *testing.T) {
	t.Helper()
	w, last, want := b.want, false, api.ErrState
	if w.goes() {
		w.saves = w.saves[:len(w.saves)-1]
		last, want = !w.open(), api.OK
	}
	if last {
		w.stamp, w.flag = 0, false
	}
	if commits, e := b.deal.End(); commits != last || e != want {
		t.Error("End", commits, e, "not", last, want)
	}
	b.like(t)
}

func (b both) fail(t *testing.T, cause uint32) {
	t.Helper()
	want := api.ErrState
	if b.want.goes() {
		b.want.fails, want = []uint32{cause}, api.OK
	}
	if e := b.deal.Fail(cause); e != want {
		t.Error("Fail", cause, e, "not", want)
	}
	b.like(t)
}

func (b both) over(t *testing.T) {
	t.Helper()
	w, s, c, want := b.want, api.Save{}, uint32(0), api.ErrState
	if len(w.fails) > 0 {
		s, c, want = w.saves[0], w.fails[0], api.OK
		w.saves, w.fails, w.flag = nil, nil, false
		if c%256 != 1 {
			w.stamp = 0
		}
	}
	if x, cause, e := b.deal.Over(); x != s || cause != c || e != want {
		t.Error("Over", x, cause, e, "not", s, c, want)
	}
	b.like(t)
}

func (b both) asked(t *testing.T, meets bool, stamp uint64) {
	t.Helper()
	want, next := order.Asked(b.want.own(), b.want.flag, meets, stamp)
	if refuses := b.deal.Asked(meets, stamp); refuses != want {
		t.Error("Asked", meets, stamp, refuses, "not", want)
	}
	b.want.flag = next
	b.like(t)
}

// refused is asked with each stamp; that it is asked changes nothing.
func (b both) refused(t *testing.T) {
	t.Helper()
	for _, stamp := range stamps {
		want := b.want.goes() && order.Gives(b.want.own(), b.want.flag, stamp)
		if gives := b.deal.Refused(stamp); gives != want {
			t.Error("Refused", stamp, gives, "not", want)
		}
	}
}

// like tells whether all that is to be seen of the deal is what it should be; that it is asked changes nothing.
func (b both) like(t *testing.T) {
	t.Helper()
	for range 2 {
		if n := b.deal.Depth(); n != len(b.want.saves) {
			t.Error("Depth", n, "not", len(b.want.saves))
		}
		if is := b.deal.Failing(); is != (len(b.want.fails) > 0) {
			t.Error("Failing", is, "not", b.want.fails)
		}
		if x := b.deal.Stamp(); x != b.want.own() {
			t.Error("Stamp", x, "not", b.want.own())
		}
		if is := b.deal.Flag(); is != b.want.flag {
			t.Error("Flag", is, "not", b.want.flag)
		}
		b.refused(t)
	}
}

// ways are ways into all kinds of states of a deal that may be 3 deep; the stamps are around 9.
var ways = []struct {
	name string
	into func(t *testing.T, b both)
}{
	{"new", func(t *testing.T, b both) {}},
	{"open", func(t *testing.T, b both) { b.begin(t, save(1), 9) }},
	{"two deep", func(t *testing.T, b both) {
		b.begin(t, save(1), 9)
		b.begin(t, save(2), 5)
	}},
	{"full", func(t *testing.T, b both) {
		for n := range 3 {
			b.begin(t, save(n), 9+uint64(n))
		}
	}},
	{"flag", func(t *testing.T, b both) {
		b.begin(t, save(1), 9)
		b.asked(t, true, 7)
	}},
	{"full with flag", func(t *testing.T, b both) {
		for n := range 3 {
			b.begin(t, save(n), 9)
			b.asked(t, n == 1, 7)
		}
	}},
	{"failing", func(t *testing.T, b both) {
		b.begin(t, save(1), 9)
		b.fail(t, 3)
	}},
	{"failing, full, with flag", func(t *testing.T, b both) {
		for n := range 3 {
			b.begin(t, save(n), 9)
		}
		b.asked(t, true, 7)
		b.fail(t, 1)
	}},
	{"kept", func(t *testing.T, b both) {
		b.begin(t, save(1), 9)
		b.asked(t, true, 7)
		b.fail(t, 1)
		b.over(t)
	}},
	{"kept and open", func(t *testing.T, b both) {
		b.begin(t, save(1), 9)
		b.fail(t, 1)
		b.over(t)
		b.begin(t, save(2), 255)
	}},
	{"not kept", func(t *testing.T, b both) {
		b.begin(t, save(1), 9)
		b.fail(t, 2)
		b.over(t)
	}},
	{"committed", func(t *testing.T, b both) {
		b.begin(t, save(1), 9)
		b.asked(t, true, 7)
		b.end(t)
	}},
}

// each hands over a deal of each state, anew.
func each(t *testing.T, of func(t *testing.T, b both)) {
	t.Helper()
	for _, way := range ways {
		b := made(t, 3)
		way.into(t, b)
		if of(t, b); t.Failed() {
			t.Fatal(way.name)
		}
	}
}

func TestNumbersOfTheDocument(t *testing.T) {
	if api.OK != 0 || api.ErrNil != 1 || api.ErrArg != 2 || api.ErrFull != 7 || api.ErrState != 8 {
		t.Error(api.OK, api.ErrNil, api.ErrArg, api.ErrFull, api.ErrState)
	}
	if api.MaxNest != 8 || api.CauseConflict != 1 || len(api.Save{}.Regs) != 16 {
		t.Error(api.MaxNest, api.CauseConflict, len(api.Save{}.Regs))
	}
}

// P16.1: deals are 1 to 8 deep at most; none is open at first, there is no stamp, and the flag is not up.
func TestNew(t *testing.T) {
	for nest := 1; nest <= 8; nest++ {
		b := made(t, nest)
		if b.deal.Depth() != 0 || b.deal.Failing() || b.deal.Stamp() != 0 || b.deal.Flag() {
			t.Error(nest, b.deal)
		}
		b.like(t)
		b.end(t)
		b.fail(t, 1)
		b.over(t)
	}
}

// P16.1, R2: there are none of other depths.
func TestNewOfWrong(t *testing.T) {
	for _, nest := range append([]int{0, -1, -2, -7, -8, -9, 9, 10, 15, 16, 17, 32, 64, 255}, huge...) {
		if d, e := deal.New(nest); d != nil || e != api.ErrArg {
			t.Error("New", nest, d, e)
		}
	}
}

// P16.1: deals that are made twice have nothing to do with one another.
func TestNewIsAnother(t *testing.T) {
	a, b := made(t, 3), made(t, 3)
	a.begin(t, save(1), 9)
	a.asked(t, true, 3)
	b.like(t)
	b.begin(t, save(2), 7)
	b.fail(t, 1)
	a.like(t)
	b.over(t)
	a.end(t)
	a.like(t)
	b.like(t)
}

// P16.1 to P16.5, R4: of none.
func TestNil(t *testing.T) {
	var d *deal.Deal
	for _, stamp := range stamps {
		if e := d.Begin(save(1), stamp); e != api.ErrNil {
			t.Error("Begin", stamp, e)
		}
		if d.Asked(true, stamp) || d.Asked(false, stamp) || d.Refused(stamp) {
			t.Error("Asked, Refused", stamp)
		}
	}
	for _, cause := range slices.Concat(causes, conflicts) {
		if e := d.Fail(cause); e != api.ErrNil {
			t.Error("Fail", cause, e)
		}
	}
	if commits, e := d.End(); commits || e != api.ErrNil {
		t.Error("End", commits, e)
	}
	if s, cause, e := d.Over(); s != (api.Save{}) || cause != 0 || e != api.ErrNil {
		t.Error("Over", s, cause, e)
	}
	if d.Depth() != 0 || d.Failing() || d.Stamp() != 0 || d.Flag() || d.Copy() != nil {
		t.Error(d.Depth(), d.Failing(), d.Stamp(), d.Flag(), d.Copy())
	}
}

// P16.1: a deal goes as deep as nest, and no deeper, again and again; the stamp is the outermost one's.
func TestBeginUntilFull(t *testing.T) {
	for nest := 1; nest <= 8; nest++ {
		b := made(t, nest)
		for turn := range 3 {
			own := uint64(20 - 5*turn)
			for n := range nest {
				if e := b.deal.Begin(save(n), own+uint64(n)*uint64(turn)); e != api.OK || b.deal.Depth() != n+1 || b.deal.Stamp() != own {
					t.Fatal("Begin", nest, n, e, b.deal.Depth(), b.deal.Stamp())
				}
			}
			for range 2 {
				if e := b.deal.Begin(save(9), 1); e != api.ErrFull || b.deal.Depth() != nest || b.deal.Stamp() != own {
					t.Error("Begin", nest, e, b.deal.Depth(), b.deal.Stamp())
				}
			}
			for n := range nest {
				if commits, e := b.deal.End(); commits != (n == nest-1) || e != api.OK || b.deal.Depth() != nest-1-n {
					t.Error("End", nest, n, commits, e)
				}
			}
			b.like(t)
		}
	}
}

// P16.1: each stamp but 0 is taken, whole, by one that has none.
func TestStamps(t *testing.T) {
	for _, stamp := range rising {
		for _, other := range rising {
			b := made(t, 2)
			b.begin(t, save(1), stamp)
			b.begin(t, save(2), other)
			if b.deal.Stamp() != stamp {
				t.Error("Stamp", b.deal.Stamp(), "not", stamp)
			}
			b.end(t)
			b.end(t)
			b.begin(t, save(1), other)
			if b.deal.Stamp() != other {
				t.Error("Stamp", b.deal.Stamp(), "not", other)
			}
		}
	}
}

// P16.1, R2: a stamp of 0 is told ahead of a deal that is failing, or full, and where a stamp is kept as well; one that is failing ahead of one that is full.
func TestBeginOfWrong(t *testing.T) {
	each(t, func(t *testing.T, b both) {
		if e := b.deal.Begin(save(7), 0); e != api.ErrArg {
			t.Error("Begin of 0", e)
		}
		b.like(t)
		for _, stamp := range rising {
			e := b.copied().deal.Begin(save(7), stamp)
			switch {
			case b.deal.Failing() && e != api.ErrState, !b.deal.Failing() && b.deal.Depth() == 3 && e != api.ErrFull:
				t.Error("Begin", stamp, e)
			case !b.deal.Failing() && b.deal.Depth() < 3 && e != api.OK:
				t.Error("Begin", stamp, e)
			}
		}
	})
}

// P16.1: one that is refused leaves what the outermost one saved, and the stamp, and the flag.
func TestBeginThatIsRefused(t *testing.T) {
	each(t, func(t *testing.T, b both) {
		for range 3 {
			b.begin(t, save(4), 0)
			for len(b.want.fails) > 0 || len(b.want.saves) == 3 {
				b.begin(t, save(4), 1)
				b.begin(t, save(5), math.MaxUint64)
				if b.want.goes() {
					b.fail(t, 1)
				} else {
					b.over(t)
				}
			}
			b.begin(t, save(6), 3)
		}
	})
}

// P16.2: what begins within another one does not commit by its own end; the flag and the stamp stay until the outermost one ends.
func TestEnd(t *testing.T) {
	for nest := 1; nest <= 8; nest++ {
		for deep := 1; deep <= nest; deep++ {
			b := made(t, nest)
			for n := range deep {
				b.begin(t, save(n), 9)
			}
			b.asked(t, true, 3)
			for b.want.open() {
				if !b.deal.Flag() || b.deal.Stamp() != 9 || !b.deal.Refused(3) {
					t.Error(nest, deep, b.deal)
				}
				b.end(t)
			}
			if b.deal.Flag() || b.deal.Stamp() != 0 || b.deal.Refused(3) {
				t.Error(nest, deep, b.deal)
			}
			b.end(t)
			b.begin(t, save(8), 2)
			b.end(t)
			b.end(t)
		}
	}
}

// P16.2, P16.3, R2: in each state, End, Fail and Over of those that may not be change nothing.
func TestNotInThisState(t *testing.T) {
	each(t, func(t *testing.T, b both) {
		goes, failing := b.want.goes(), b.deal.Failing()
		for range 3 {
			if commits, e := b.deal.End(); !goes && (commits || e != api.ErrState) {
				t.Error("End", commits, e)
			}
			if goes {
				break
			}
			for _, cause := range []uint32{0, 1, 2, 0x101, math.MaxUint32} {
				if e := b.deal.Fail(cause); e != api.ErrState {
					t.Error("Fail", cause, e)
				}
			}
			if failing {
				continue
			}
			if s, cause, e := b.deal.Over(); s != (api.Save{}) || cause != 0 || e != api.ErrState {
				t.Error("Over", s, cause, e)
			}
		}
		if goes {
			return
		}
		b.like(t)
		b.over(t)
		b.begin(t, save(3), 12)
		b.over(t)
		b.end(t)
	})
}

// P16.3: whatever the cause, what it goes back to is what the outermost one saved, and none is open then, however deep it was.
func TestOver(t *testing.T) {
	for _, cause := range slices.Concat(causes, conflicts) {
		for deep := 1; deep <= 8; deep++ {
			b := made(t, 8)
			for n := range deep {
				b.begin(t, save(n), uint64(9+n))
			}
			b.asked(t, deep%2 == 0, 3)
			if e := b.deal.Fail(cause); e != api.OK || !b.deal.Failing() || b.deal.Depth() != deep || b.deal.Stamp() != 9 {
				t.Error("Fail", cause, e, b.deal)
			}
			if s, c, e := b.deal.Over(); s != save(0) || c != cause || e != api.OK {
				t.Error("Over", s, c, e)
			}
			if b.deal.Failing() || b.deal.Depth() != 0 || b.deal.Stamp() != 0 || b.deal.Flag() {
				t.Error("Over", cause, b.deal)
			}
			if s, c, e := b.deal.Over(); s != (api.Save{}) || c != 0 || e != api.ErrState {
				t.Error("Over", s, c, e)
			}
		}
	}
}

// P16.3: the first cause is told, also where others came behind it.
func TestFailsOnce(t *testing.T) {
	for _, cause := range slices.Concat(causes, conflicts) {
		for _, other := range []uint32{1, 2, 0x105, 0} {
			b := made(t, 1)
			b.begin(t, save(1), 9)
			b.fail(t, cause)
			b.fail(t, other)
			b.over(t)
			b.begin(t, save(2), 12)
			b.fail(t, other)
			b.over(t)
		}
	}
}

// P16.3: the stamp is kept just if the lowest eight bits of the cause are CauseConflict, whatever stands above them.
func TestKept(t *testing.T) {
	kept := func(cause uint32) uint64 {
		b := made(t, 2)
		b.begin(t, save(1), 9)
		b.begin(t, save(2), 10)
		b.fail(t, cause)
		b.over(t)
		b.begin(t, save(3), 12)
		return b.deal.Stamp()
	}
	for low := range uint32(256) {
		for _, high := range []uint32{0, 1, 2, 0x80, 0xff, 0x100, 0x10000, 0x800000, 0xffffff} {
			if x := kept(high<<8 + low); (x == 9) != (low == 1) || x != 9 && x != 12 {
				t.Error("Stamp", high, low, x)
			}
		}
	}
}

// P16.3: what is saved is told whole, as it was at Begin, whatever registers and handler.
func TestSave(t *testing.T) {
	l := []api.Save{{}, {Handler: -1}, {Handler: math.MinInt}, {Handler: math.MaxInt}, {Handler: 1 << 32}}
	for i := range 16 {
		s := api.Save{}
		s.Regs[i] = math.MaxUint32
		l = append(l, s)
	}
	for _, want := range l {
		b, s := made(t, 2), want
		b.deal.Begin(s, 9)
		s.Handler, s.Regs[0], s.Regs[15] = 5, 6, 7
		b.deal.Begin(s, 9)
		b.deal.Fail(2)
		if x, _, e := b.deal.Over(); x != want || e != api.OK {
			t.Error("Over", x, e, "not", want)
		}
	}
}

// P16.4: a transaction that is open, or failing, refuses what it marked, and nothing else; where none is open, also with a stamp that is kept, nothing is refused.
func TestRefuses(t *testing.T) {
	each(t, func(t *testing.T, b both) {
		for _, stamp := range stamps {
			if x := b.copied(); x.deal.Asked(true, stamp) != (b.deal.Depth() > 0) {
				t.Error("Asked", stamp)
			}
			if x := b.copied(); x.deal.Asked(false, stamp) {
				t.Error("Asked", stamp)
			}
			for _, meets := range yesAndNo {
				b.copied().asked(t, meets, stamp)
			}
		}
	})
}

// P16.4: the flag goes up where an older one is refused, by nothing else, and stays up as long as the transaction is open.
func TestFlag(t *testing.T) {
	for _, own := range rising {
		for _, stamp := range stamps {
			b := made(t, 2)
			b.begin(t, save(1), own)
			b.asked(t, false, stamp)
			if b.deal.Flag() {
				t.Error("Flag", own, stamp)
			}
			up := stamp > 0 && stamp < own
			if b.asked(t, true, stamp); b.deal.Flag() != up {
				t.Error("Flag", own, stamp, b.deal.Flag())
			}
			b.asked(t, false, 0)
			b.asked(t, true, math.MaxUint64)
			b.begin(t, save(2), 1)
			b.end(t)
			b.fail(t, 1)
			if b.deal.Flag() != up {
				t.Error("Flag", own, stamp, b.deal.Flag())
			}
			b.over(t)
			if b.begin(t, save(3), own); b.deal.Flag() {
				t.Error("Flag", own, stamp)
			}
		}
	}
}

// P16.1, P16.4: asks that come while none is open leave no flag to the next one.
func TestAskedWhileNoneIsOpen(t *testing.T) {
	each(t, func(t *testing.T, b both) {
		if b.want.open() {
			return
		}
		for _, stamp := range stamps {
			b.asked(t, true, stamp)
			b.asked(t, false, stamp)
		}
		if b.begin(t, save(1), math.MaxUint64); b.deal.Flag() {
			t.Error("Flag")
		}
	})
}

// P16.4: it gives way to an older one, if its flag is up, and it goes on still; not where it is failing, or not open.
func TestRefused(t *testing.T) {
	for _, own := range rising {
		for _, stamp := range stamps {
			older := stamp > 0 && stamp < own
			b := made(t, 1)
			gives := func(want bool) {
				t.Helper()
				if b.deal.Refused(stamp) != want {
					t.Error("Refused", own, stamp, b.deal)
				}
			}
			gives(false)
			b.begin(t, save(1), own)
			gives(false)
			// The flag goes up by any older one.
			if b.asked(t, true, 1); own > 1 {
				gives(older)
			}
			b.fail(t, 1)
			gives(false)
			b.over(t)
			gives(false)
			b.begin(t, save(1), 1)
			gives(false)
			b.asked(t, true, 1)
			b.end(t)
			gives(false)
		}
	}
}

// P16.6: a stamp that was kept is the same again, over as many conflicts as there are, until the transaction commits.
func TestKeptUntilItCommits(t *testing.T) {
	for nest := 1; nest <= 3; nest++ {
		b := made(t, nest)
		for n := range 20 {
			for deep := range 1 + n%nest {
				b.begin(t, save(n+deep), uint64(100+100*n-deep))
				if b.deal.Stamp() != 100 {
					t.Error("Stamp", nest, n, b.deal.Stamp())
				}
			}
			b.asked(t, true, uint64(n))
			b.fail(t, 1+uint32(n)<<8)
			b.over(t)
			b.end(t)
			b.begin(t, save(0), 0)
		}
		b.begin(t, save(1), 5)
		b.begin(t, save(1), 4)
		if b.deal.Stamp() != 100 {
			t.Error("Stamp", nest, b.deal.Stamp())
		}
		for b.want.open() {
			b.end(t)
		}
		if b.begin(t, save(1), 7000); b.deal.Stamp() != 7000 {
			t.Error("Stamp", nest, b.deal.Stamp())
		}
	}
}

// P16.6: .. or until it fails for something else.
func TestKeptUntilItFails(t *testing.T) {
	for _, cause := range causes {
		b := made(t, 2)
		for n := range 3 {
			b.begin(t, save(n), uint64(10+n))
			b.fail(t, conflicts[n])
			b.over(t)
		}
		b.begin(t, save(5), 50)
		b.begin(t, save(6), 60)
		if b.deal.Stamp() != 10 {
			t.Error("Stamp", cause, b.deal.Stamp())
		}
		b.fail(t, cause)
		b.over(t)
		if b.begin(t, save(7), 70); b.deal.Stamp() != 70 {
			t.Error("Stamp", cause, b.deal.Stamp())
		}
	}
}

// P16.6: who keeps its stamp is older, in the end, than whoever makes it wait: of two that wait for each other it is not always the same one that gives way.
func TestOldestInTheEnd(t *testing.T) {
	a, b := made(t, 1), made(t, 1)
	for now, gave := uint64(10), 0; now < 30; now += 2 {
		a.begin(t, save(1), now)
		b.begin(t, save(2), now+1)
		a.asked(t, true, b.deal.Stamp())
		b.asked(t, true, a.deal.Stamp())
		x, y := a.deal.Refused(b.deal.Stamp()), b.deal.Refused(a.deal.Stamp())
		if x == y || x != (a.deal.Stamp() > b.deal.Stamp()) {
			t.Error("Refused", now, x, y)
		}
		gives, stays := a, b
		if y {
			gives, stays = b, a
		}
		gives.fail(t, api.CauseConflict)
		gives.over(t)
		stays.end(t)
		// b gives way at first; then a and b by turns.
		if who := gives.deal == b.deal; who != (gave%2 == 0) {
			t.Error("gives way", now, gave)
		}
		gave++
	}
}

// changes are what may be done to a deal, of whatever state.
var changes = []func(t *testing.T, b both){
	func(t *testing.T, b both) { b.begin(t, save(11), 6) },
	func(t *testing.T, b both) { b.begin(t, save(12), 256) },
	func(t *testing.T, b both) { b.end(t) },
	func(t *testing.T, b both) { b.fail(t, 1) },
	func(t *testing.T, b both) { b.fail(t, 0x102) },
	func(t *testing.T, b both) { b.over(t) },
	func(t *testing.T, b both) { b.asked(t, true, 3) },
	func(t *testing.T, b both) { b.asked(t, true, 300) },
}

// P16.5: a copy, of each state, is the same, and goes on apart from what it was made of, whichever is changed, and however.
func TestCopy(t *testing.T) {
	for _, change := range changes {
		for _, other := range changes {
			each(t, func(t *testing.T, b both) {
				q := b.copied()
				if q.deal == nil || q.deal == b.deal {
					t.Fatal("Copy", q.deal)
				}
				q.like(t)
				change(t, b)
				q.like(t)
				other(t, q)
				b.like(t)
				for _, x := range []both{b, q.copied(), q} {
					x.over(t)
					x.begin(t, save(5), 77)
					x.begin(t, save(6), 78)
					x.begin(t, save(7), 79)
					x.begin(t, save(8), 80)
					x.fail(t, 5)
					x.over(t)
				}
			})
		}
	}
}

// P16.1 to P16.5: each row of five changes, on deals that may be 1 or 2 deep; what is left is told at the end.
func TestRows(t *testing.T) {
	for nest := 1; nest <= 2; nest++ {
		for row := range 8 * 8 * 8 * 8 * 8 {
			b := made(t, nest)
			for left := row; left > 0; left /= 8 {
				changes[left%8](t, b)
			}
			b.fail(t, 1)
			b.over(t)
			b.begin(t, save(1), 500)
			b.over(t)
			if t.Failed() {
				t.Fatal("row", nest, row)
			}
		}
	}
}

// mixed is a row of numbers that are as good as picked at random; the same ones each time.
func mixed(m uint32) func(below int) int {
	return func(below int) int {
		m = m*1664525 + 1013904223
		return int(m>>8) % below
	}
}

// do does one of six things to both.
func (b both) do(t *testing.T, what int, pick func(below int) int) {
	t.Helper()
	switch what {
	case 0:
		b.begin(t, save(pick(100)), stamps[pick(len(stamps))])
	case 1:
		b.end(t)
	case 2:
		b.fail(t, causes[pick(len(causes))])
	case 3:
		b.fail(t, conflicts[pick(len(conflicts))])
	case 4:
		b.over(t)
	default:
		b.asked(t, pick(2) == 0, stamps[pick(len(stamps))])
	}
}

// P16.1 to P16.6: whatever is done, to deals and to copies of them, they are as they should be.
func TestRuns(t *testing.T) {
	for i := range 64 {
		pick := mixed(uint32(i))
		l := []both{made(t, 1+i%8)}
		for n := range 500 {
			j := pick(len(l))
			l[j].do(t, []int{0, 0, 0, 0, 1, 1, 2, 3, 4, 4, 5, 5, 5}[pick(13)], pick)
			if n%100 == 99 {
				l = append(l, l[j].copied())
			}
			for _, b := range l {
				b.like(t)
			}
			if t.Failed() {
				t.Fatal("run", i, n)
			}
		}
	}
}

// R5: the same calls answer the same, whatever was asked of others.
func TestTheSameAgain(t *testing.T) {
	a, b, pick := made(t, 2), made(t, 2), mixed(1)
	for i := range 400 {
		change := changes[pick(len(changes))]
		change(t, a)
		made(t, 1).begin(t, save(i), uint64(i+1))
		change(t, b)
		if x, y := a.deal, b.deal; x.Depth() != y.Depth() || x.Stamp() != y.Stamp() || x.Flag() != y.Flag() || x.Failing() != y.Failing() {
			t.Error(i, x, y)
		}
	}
}

// The chapter's table.
func TestExamples(t *testing.T) {
	d := made(t, 2).deal
	s, u := save(1), save(2)
	if a, b, c := d.Begin(s, 7), d.Begin(u, 8), d.Begin(u, 9); a != api.OK || b != api.OK || c != api.ErrFull || d.Depth() != 2 || d.Stamp() != 7 {
		t.Error("Begin, Depth, Stamp", a, b, c, d.Depth(), d.Stamp())
	}
	for i, want := range []struct {
		commits bool
		e       api.Errno
	}{{false, api.OK}, {true, api.OK}, {false, api.ErrState}} {
		if commits, e := d.End(); commits != want.commits || e != want.e {
			t.Error("End", i, commits, e, "not", want)
		}
	}
	if d.Stamp() != 0 {
		t.Error("Stamp", d.Stamp())
	}
	if a, b := d.Begin(s, 3), d.Fail(1); a != api.OK || b != api.OK {
		t.Error("Begin, Fail", a, b)
	}
	if x, cause, e := d.Over(); x != s || cause != 1 || e != api.OK {
		t.Error("Over", x, cause, e)
	}
	if e := d.Begin(u, 9); e != api.OK || d.Stamp() != 3 {
		t.Error("Begin, Stamp", e, d.Stamp())
	}
}
