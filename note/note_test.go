package note_test

import (
	"math"
	"slices"
	"strings"
	"testing"

	"undertow/api"
	"undertow/note"
)

// kind is what the chapter's words say of one.
type kind struct {
	number              uint8
	net                 int
	toHome              bool
	stamp, state, stick bool
	has                 []bool // what Has may be
}

var (
	no     = []bool{false}
	always = []bool{true}
	either = []bool{false, true}
)

var kinds = []kind{
	{number: 1, net: 0, toHome: true, stamp: true, has: no},
	{number: 2, net: 0, toHome: true, stamp: true, has: no},
	{number: 3, net: 0, toHome: true, stick: true, has: always},
	{number: 4, net: 1, stamp: true, has: no},
	{number: 5, net: 1, stamp: true, has: no},
	{number: 6, net: 2, state: true, has: always},
	{number: 7, net: 2, stamp: true, has: no},
	{number: 8, net: 2, has: no},
	{number: 9, net: 2, toHome: true, has: either},
	{number: 10, net: 2, toHome: true, stamp: true, has: no},
	{number: 11, net: 2, toHome: true, has: no},
}

// huge are numbers far from all that a note has, and such as are like small ones if upper bits were dropped, or 1 was added.
var huge = []int{
	math.MinInt, math.MinInt + 1, math.MinInt32, math.MaxInt, math.MaxInt - 1, math.MaxInt32, math.MaxUint32,
	1 << 8, 1<<8 - 1, 1<<8 + 3, 1 << 16, 1<<16 - 1, 1<<16 + 3, 1 << 32, 1<<32 - 1, 1<<32 + 3, 1 << 62, 1<<62 + 3,
	-1 << 8, -1<<8 - 1, -1<<8 + 3, -1 << 16, -1<<16 - 1, -1 << 32, -1<<32 - 1, -1<<32 + 3, -1 << 62,
}

var stamps = []uint64{0, 1, 3, 255, 256, 0x0807060504030201, math.MaxInt64, 1 << 63, math.MaxUint64}

// someData has no two bytes alike.
func someData() api.Block {
	var b api.Block
	for i := range b {
		x := uint32(4*i + 1)
		b[i] = x + (x+1)*256 + (x+2)*65536 + (x+3+128)*16777216
	}
	return b
}

func fullData() api.Block {
	var b api.Block
	for i := range b {
		b[i] = math.MaxUint32
	}
	return b
}

// data are blocks: nothing, all, and one word or bit alone.
func data() []api.Block {
	return []api.Block{{}, {0: 1}, {15: 1}, {15: 1 << 31}, {7: 77}, someData(), fullData()}
}

// mayBe is the chapter's first paragraph.
func mayBe(n api.Note) bool {
	for _, k := range kinds {
		if n.Kind == k.number {
			return k.mayBe(n)
		}
	}
	return false
}

func (k kind) mayBe(n api.Note) bool {
	home, core := n.From, n.To
	if k.toHome {
		home, core = n.To, n.From
	}
	switch {
	case n.Block < 0, n.Block > 255, home != -1, core < 0, core > 15:
		return false
	case !k.stamp && n.Stamp != 0, !k.stick && n.Stick:
		return false
	case k.state && n.State != 1 && n.State != 2 && n.State != 3, !k.state && n.State != 0:
		return false
	case !slices.Contains(k.has, n.Has):
		return false
	}
	for _, word := range n.Data {
		if word != 0 && !n.Has {
			return false
		}
	}
	return true
}

// low is so many bytes of a number, the lowest first.
func low(x uint64, bytes int) string {
	var s strings.Builder
	for range bytes {
		s.WriteByte(byte(x % 256))
		x /= 256
	}
	return s.String()
}

// bytesOf is the chapter's last paragraph of 'Words', of a note that may be.
func bytesOf(n api.Note) string {
	last := uint64(n.State) * 4
	if n.Has {
		last += 2
	}
	if n.Stick {
		last++
	}
	s := low(uint64(n.Kind), 1) + low(uint64(n.From+1), 1) + low(uint64(n.To+1), 1)
	s += low(uint64(n.Block), 2) + low(n.Stamp, 8) + low(last, 1)
	for _, word := range n.Data {
		s += low(uint64(word), 4)
	}
	return s
}

// read is the number that bytes are, the lowest first.
func read(s string) uint64 {
	x := uint64(0)
	for i := len(s) - 1; i >= 0; i-- {
		x = 256*x + uint64(s[i])
	}
	return x
}

// told is the note that may be whose bytes s is, if there is one.
func told(s string) (api.Note, bool) {
	if len(s) != 78 {
		return api.Note{}, false
	}
	n := api.Note{Kind: s[0], From: int(s[1]) - 1, To: int(s[2]) - 1, Block: int(read(s[3:5])), Stamp: read(s[5:13])}
	n.State, n.Has, n.Stick = api.State(s[13]/4), s[13]/2%2 == 1, s[13]%2 == 1
	for i := range n.Data {
		n.Data[i] = uint32(read(s[14+4*i : 18+4*i]))
	}
	if !mayBe(n) || bytesOf(n) != s {
		return api.Note{}, false
	}
	return n, true
}

// between is a note of a kind between the home and a core, with what the kind must have and nothing else.
func (k kind) between(core, block int) api.Note {
	n := api.Note{Kind: k.number, From: -1, To: core, Block: block}
	if k.toHome {
		n.From, n.To = core, -1
	}
	n.Has = k.has[0]
	if k.state {
		n.State = 1
	}
	return n
}

// fillings are a note with each of what its kind may have in it.
func (k kind) fillings(n api.Note) []api.Note {
	l := []api.Note{n}
	each := func(many int, set func(n *api.Note, i int)) {
		var next []api.Note
		for _, n := range l {
			for i := range many {
				m := n
				set(&m, i)
				next = append(next, m)
			}
		}
		l = next
	}
	if k.stamp {
		each(len(stamps), func(n *api.Note, i int) { n.Stamp = stamps[i] })
	}
	if k.state {
		each(3, func(n *api.Note, i int) { n.State = api.State(i + 1) })
	}
	if k.stick {
		each(2, func(n *api.Note, i int) { n.Stick = i == 1 })
	}
	each(len(k.has), func(n *api.Note, i int) { n.Has = k.has[i] })
	blocks := data()
	each(len(blocks), func(n *api.Note, i int) {
		if n.Has {
			n.Data = blocks[i]
		}
	})
	return l
}

// notes are of all kinds, with whatever they may have.
func notes() []api.Note {
	var l []api.Note
	for _, k := range kinds {
		for _, core := range []int{0, 1, 7, 14, 15} {
			for _, block := range []int{0, 1, 5, 128, 254, 255} {
				l = append(l, k.fillings(k.between(core, block))...)
			}
		}
	}
	return l
}

// plain are a few notes of each kind.
func plain() []api.Note {
	var l []api.Note
	for _, k := range kinds {
		n := k.between(6, 9)
		l = append(l, n, k.between(0, 0), k.between(15, 255))
		if k.stamp {
			n.Stamp = 0x1122334455667788
		}
		n.State, n.Stick = n.State*3, k.stick
		if n.Has = k.has[len(k.has)-1]; n.Has {
			n.Data = someData()
		}
		l = append(l, n)
	}
	return l
}

// may asks all calls for a note that may be.
func may(t *testing.T, n api.Note) {
	t.Helper()
	if e := note.May(n); e != api.OK {
		t.Error("May", n, e)
	}
	s, e := note.Put(n)
	if want := bytesOf(n); s != want || e != api.OK {
		t.Errorf("Put %v %x %v not %x", n, s, e, want)
	}
	if m, e := note.Take(bytesOf(n)); m != n || e != api.OK {
		t.Error("Take", n, m, e)
	}
}

// mayNot asks all calls for a note that may not be; its bytes, if its parts fit into as many, are none's.
func mayNot(t *testing.T, n api.Note) {
	t.Helper()
	if e := note.May(n); e != api.ErrArg {
		t.Error("May", n, e)
	}
	if s, e := note.Put(n); s != "" || e != api.ErrArg {
		t.Errorf("Put %v %x %v", n, s, e)
	}
	// Parts of n that do not fit into their bytes are others there, and these may be a note's.
	s := bytesOf(n)
	if _, is := told(s); !is {
		isNone(t, s)
	}
}

// isNone asks Take for bytes that are no note's.
func isNone(t *testing.T, s string) {
	t.Helper()
	if m, e := note.Take(s); m != (api.Note{}) || e != api.ErrBytes {
		t.Errorf("Take %x %v %v", s, m, e)
	}
}

// asked asks all calls for a note, as the chapter's words have it, and tells whether it may be.
func asked(t *testing.T, n api.Note) bool {
	t.Helper()
	is := mayBe(n)
	if is {
		may(t, n)
	} else {
		mayNot(t, n)
	}
	return is
}

func TestNumbersOfTheDocument(t *testing.T) {
	if api.OK != 0 || api.ErrArg != 2 || api.ErrBytes != 6 {
		t.Error("errors", api.OK, api.ErrArg, api.ErrBytes)
	}
	if api.Home != -1 || api.MaxCores != 16 || api.MaxBlocks != 256 || api.BlockWords != 16 || api.NoteBytes != 78 || api.Nets != 3 {
		t.Error("limits", api.Home, api.MaxCores, api.MaxBlocks, api.BlockWords, api.NoteBytes, api.Nets)
	}
	numbers := []uint8{
		api.NtGetS, api.NtGetM, api.NtPut, api.NtDown, api.NtInv, api.NtData,
		api.NtNack, api.NtPutAck, api.NtAck, api.NtRefuse, api.NtDone,
	}
	for i, k := range numbers {
		if int(k) != i+1 || kinds[i].number != k {
			t.Error("kinds", i, k)
		}
	}
	if api.StNone != 0 || api.StShared != 1 || api.StAlone != 2 || api.StOwn != 3 {
		t.Error("states", api.StNone, api.StShared, api.StAlone, api.StOwn)
	}
}

// P8.1: a note of each kind, written out.
func TestEachKind(t *testing.T) {
	b := api.Block{3: 4}
	for _, n := range []api.Note{
		{Kind: api.NtGetS, From: 2, To: -1, Block: 5, Stamp: 3},
		{Kind: api.NtGetS, From: 2, To: -1, Block: 5},
		{Kind: api.NtGetM, From: 0, To: -1, Block: 0, Stamp: math.MaxUint64},
		{Kind: api.NtPut, From: 15, To: -1, Block: 255, Has: true, Stick: true, Data: b},
		{Kind: api.NtPut, From: 15, To: -1, Block: 255, Has: true, Data: b},
		{Kind: api.NtPut, From: 15, To: -1, Block: 255, Has: true},
		{Kind: api.NtDown, From: -1, To: 0, Block: 5, Stamp: 3},
		{Kind: api.NtInv, From: -1, To: 15, Block: 5, Stamp: 3},
		{Kind: api.NtData, From: -1, To: 3, Block: 5, State: api.StShared, Has: true, Data: b},
		{Kind: api.NtData, From: -1, To: 3, Block: 5, State: api.StAlone, Has: true, Data: b},
		{Kind: api.NtData, From: -1, To: 3, Block: 5, State: api.StOwn, Has: true},
		{Kind: api.NtNack, From: -1, To: 3, Block: 5, Stamp: 3},
		{Kind: api.NtPutAck, From: -1, To: 3, Block: 5},
		{Kind: api.NtAck, From: 3, To: -1, Block: 5},
		{Kind: api.NtAck, From: 3, To: -1, Block: 5, Has: true},
		{Kind: api.NtAck, From: 3, To: -1, Block: 5, Has: true, Data: b},
		{Kind: api.NtRefuse, From: 3, To: -1, Block: 5, Stamp: 3},
		{Kind: api.NtDone, From: 3, To: -1, Block: 5},
	} {
		may(t, n)
	}
}

// P8.1: notes that may not be, written out.
func TestEachFault(t *testing.T) {
	b := api.Block{3: 4}
	for _, n := range []api.Note{
		{},
		{From: -1},
		{To: -1},
		{Kind: api.NtGetS, From: -1, To: 2, Block: 5, Stamp: 3},
		{Kind: api.NtGetS, From: 2, To: -1, Block: 5, Stamp: 3, Has: true},
		{Kind: api.NtGetM, From: 2, To: -1, Block: 256},
		{Kind: api.NtGetM, From: 2, To: -1, Block: -1},
		{Kind: api.NtGetM, From: 2, To: -1, Block: 5, State: api.StOwn},
		{Kind: api.NtPut, From: 2, To: -1, Block: 5},
		{Kind: api.NtPut, From: 2, To: -1, Block: 5, Data: b},
		{Kind: api.NtPut, From: 2, To: -1, Block: 5, Has: true, Stamp: 1},
		{Kind: api.NtPut, From: 2, To: -1, Block: 5, Has: true, State: api.StOwn, Data: b},
		{Kind: api.NtDown, From: 2, To: -1, Block: 5, Stamp: 3},
		{Kind: api.NtDown, From: -1, To: 16, Block: 5, Stamp: 3},
		{Kind: api.NtInv, From: -1, To: 2, Block: 5, Stamp: 3, Stick: true},
		{Kind: api.NtInv, From: -1, To: 2, Block: 5, Stamp: 3, Data: b},
		{Kind: api.NtData, From: -1, To: 2, Block: 5, State: api.StShared},
		{Kind: api.NtData, From: -1, To: 2, Block: 5, State: api.StShared, Data: b},
		{Kind: api.NtData, From: -1, To: 2, Block: 5, Has: true, Data: b},
		{Kind: api.NtData, From: -1, To: 2, Block: 5, State: 4, Has: true, Data: b},
		{Kind: api.NtData, From: -1, To: 2, Block: 5, State: api.StOwn, Has: true, Data: b, Stamp: 1},
		{Kind: api.NtData, From: -1, To: 2, Block: 5, State: api.StOwn, Has: true, Data: b, Stick: true},
		{Kind: api.NtNack, From: -1, To: -1, Block: 5, Stamp: 3},
		{Kind: api.NtNack, From: 2, To: 2, Block: 5, Stamp: 3},
		{Kind: api.NtPutAck, From: -1, To: 2, Block: 5, Stamp: 3},
		{Kind: api.NtPutAck, From: -1, To: 2, Block: 5, Has: true, Data: b},
		{Kind: api.NtAck, From: 2, To: -1, Block: 5, Stamp: 3},
		{Kind: api.NtAck, From: 2, To: -1, Block: 5, Data: b},
		{Kind: api.NtAck, From: 2, To: -1, Block: 5, Has: true, State: api.StShared, Data: b},
		{Kind: api.NtRefuse, From: 16, To: -1, Block: 5, Stamp: 3},
		{Kind: api.NtRefuse, From: 2, To: -1, Block: 5, Stamp: 3, Has: true, Data: b},
		{Kind: api.NtDone, From: 2, To: 0, Block: 5},
		{Kind: api.NtDone, From: 2, To: -1, Block: 5, Stamp: 3},
		{Kind: 12, From: 2, To: -1, Block: 5},
		{Kind: 255, From: 2, To: -1, Block: 5},
	} {
		mayNot(t, n)
	}
}

// P8.1, P8.2: whatever a note may have, together.
func TestNotes(t *testing.T) {
	for _, n := range notes() {
		if !asked(t, n) {
			t.Error("should be one", n)
		}
	}
}

// P8.1: each note with each number as its kind.
func TestKinds(t *testing.T) {
	for _, was := range append(plain(), api.Note{}, api.Note{From: -1}, api.Note{To: -1}) {
		n := was
		for k := range 256 {
			n.Kind = uint8(k)
			if asked(t, n) && (k == 0 || k > 11) {
				t.Error("should be none", n)
			}
		}
	}
}

// P8.1: each block that may be, those about them, and huge ones.
func TestBlocks(t *testing.T) {
	for _, n := range plain() {
		for block := -300; block < 1100; block++ {
			n.Block = block
			if is := asked(t, n); is != (block >= 0 && block < 256) {
				t.Error("Block", n, is)
			}
		}
		for _, n.Block = range huge {
			if n.Block != 255 {
				mayNot(t, n)
			}
		}
	}
}

// P8.1: each two ends about those that may be: both the home, both cores, each kind the wrong way round.
func TestEnds(t *testing.T) {
	ends := append([]int{}, huge...)
	for end := -4; end < 21; end++ {
		ends = append(ends, end)
	}
	for _, n := range plain() {
		are := 0
		for _, n.From = range ends {
			for _, n.To = range ends {
				if asked(t, n) {
					are++
				}
			}
		}
		if are != 16 {
			t.Error("ends", n.Kind, are)
		}
	}
	for _, k := range kinds {
		for core := range 16 {
			n := k.between(core, 40)
			may(t, n)
			n.From, n.To = n.To, n.From
			mayNot(t, n)
		}
	}
}

// P8.1: Stamps, where they are used and where they are not.
func TestStamps(t *testing.T) {
	for _, n := range plain() {
		used := kinds[n.Kind-1].stamp
		for _, n.Stamp = range stamps {
			if is := asked(t, n); is != (used || n.Stamp == 0) {
				t.Error("Stamp", n, is)
			}
		}
		for bit := range 64 {
			n.Stamp = 1 << bit
			if is := asked(t, n); is != used {
				t.Error("Stamp", n, is)
			}
		}
	}
}

// P8.1: each State, of each kind.
func TestStates(t *testing.T) {
	for _, n := range plain() {
		for s := range 256 {
			n.State = api.State(s)
			want := s == 0
			if n.Kind == api.NtData {
				want = s >= 1 && s <= 3
			}
			if is := asked(t, n); is != want {
				t.Error("State", n, is)
			}
		}
	}
}

// P8.1: Stick, Has and Data, each with each, of each kind.
func TestStickHasData(t *testing.T) {
	for _, n := range plain() {
		k := kinds[n.Kind-1]
		for _, n.Stick = range either {
			for _, n.Has = range either {
				for _, n.Data = range data() {
					want := (k.stick || !n.Stick) && slices.Contains(k.has, n.Has) && (n.Has || n.Data == api.Block{})
					if is := asked(t, n); is != want {
						t.Error("Stick, Has, Data", n, is)
					}
				}
			}
		}
	}
}

// P8.1: each bit of Data alone, with Has and without it.
func TestDataBits(t *testing.T) {
	for _, n := range plain() {
		has := kinds[n.Kind-1].has
		for place := range 16 {
			for bit := range 32 {
				n.Data, n.Has = api.Block{}, false
				n.Data[place] = 1 << bit
				mayNot(t, n)
				n.Has = true
				if is := asked(t, n); is != has[len(has)-1] {
					t.Error("Data", n, is)
				}
			}
		}
	}
}

// P8.1: the net of each number.
func TestNet(t *testing.T) {
	want := []int{-1, 0, 0, 0, 1, 1, 2, 2, 2, 2, 2, 2}
	for k := range 256 {
		net := -1
		if k < len(want) {
			net = want[k]
		}
		if got := note.Net(uint8(k)); got != net {
			t.Error("Net", k, got, "not", net)
		}
	}
	for _, k := range kinds {
		if got := note.Net(k.number); got != k.net {
			t.Error("Net", k, got)
		}
	}
}

// P8.2: bytes of notes, written out.
func TestBytes(t *testing.T) {
	zeros := func(n int) string { return strings.Repeat("\x00", n) }
	for _, x := range []struct {
		n api.Note
		s string
	}{
		{
			api.Note{Kind: 1, From: 2, To: -1, Block: 5, Stamp: 3},
			"\x01\x03\x00\x05\x00\x03" + zeros(72),
		},
		{
			api.Note{Kind: 2, From: 15, To: -1, Block: 255, Stamp: 0x0102030405060708},
			"\x02\x10\x00\xff\x00\x08\x07\x06\x05\x04\x03\x02\x01" + zeros(65),
		},
		{
			api.Note{Kind: 3, From: 0, To: -1, Block: 1, Has: true, Stick: true, Data: api.Block{0: 0x01020304, 15: 0xf0000010}},
			"\x03\x01\x00\x01\x00" + zeros(8) + "\x03\x04\x03\x02\x01" + zeros(56) + "\x10\x00\x00\xf0",
		},
		{
			api.Note{Kind: 3, From: 0, To: -1, Block: 1, Has: true},
			"\x03\x01\x00\x01\x00" + zeros(8) + "\x02" + zeros(64),
		},
		{
			api.Note{Kind: 5, From: -1, To: 0, Block: 0, Stamp: math.MaxUint64},
			"\x05\x00\x01\x00\x00\xff\xff\xff\xff\xff\xff\xff\xff" + zeros(65),
		},
		{
			api.Note{Kind: 6, From: -1, To: 15, Block: 9, State: 3, Has: true, Data: api.Block{1: 256}},
			"\x06\x00\x10\x09\x00" + zeros(8) + "\x0e" + zeros(5) + "\x01" + zeros(58),
		},
		{
			api.Note{Kind: 6, From: -1, To: 15, Block: 9, State: 1, Has: true},
			"\x06\x00\x10\x09\x00" + zeros(8) + "\x06" + zeros(64),
		},
		{
			api.Note{Kind: 8, From: -1, To: 7, Block: 9},
			"\x08\x00\x08\x09" + zeros(74),
		},
		{
			api.Note{Kind: 9, From: 4, To: -1, Block: 9, Has: true, Data: api.Block{15: 1 << 31}},
			"\x09\x05\x00\x09\x00" + zeros(8) + "\x02" + zeros(63) + "\x80",
		},
		{
			api.Note{Kind: 11, From: 4, To: -1, Block: 9},
			"\x0b\x05\x00\x09" + zeros(74),
		},
	} {
		if s, e := note.Put(x.n); s != x.s || e != api.OK {
			t.Errorf("Put %v %x %v not %x", x.n, s, e, x.s)
		}
		if n, e := note.Take(x.s); n != x.n || e != api.OK {
			t.Error("Take", x.n, n, e)
		}
	}
}

// P8.2: bytes that are too few, or too many, whatever they are.
func TestTakeLength(t *testing.T) {
	isNone(t, "")
	for _, n := range plain() {
		s := bytesOf(n)
		for many := range len(s) {
			isNone(t, s[:many])
			isNone(t, s[len(s)-many:])
		}
		for _, more := range []string{"\x00", "\x01", "\xff", s, s[:1], s[1:], strings.Repeat("\x00", 1000)} {
			isNone(t, s+more)
			if more != s {
				isNone(t, more+s)
			}
		}
	}
	for many := range 300 {
		for _, b := range []string{"\x00", "\x01", "\x0b", "\xff", "a"} {
			isNone(t, strings.Repeat(b, many))
		}
	}
	isNone(t, strings.Repeat("\x01", 1<<20))
}

// P8.2: each byte of each note made each other one, and what comes of it.
func TestTakeOtherBytes(t *testing.T) {
	are := [78]int{}
	for _, n := range plain() {
		was := []byte(bytesOf(n))
		for at := range was {
			b := slices.Clone(was)
			for x := range 256 {
				b[at] = byte(x)
				s := string(b)
				want, is := told(s)
				if !is {
					isNone(t, s)
					continue
				}
				are[at]++
				if m, e := note.Take(s); m != want || e != api.OK {
					t.Errorf("Take %x %v %v", s, m, e)
				}
			}
		}
	}
	// Of 44 notes: 24 may have whatever Stamp, and of the upper byte of Block each has what it has.
	if are[1] == 0 || are[3] != 44*256 || are[4] != 44 || are[5] != 24*256+20 || are[12] != are[5] {
		t.Error("notes", are)
	}
}

// P8.2: bytes that no note has, each at its place.
func TestTakeBytes(t *testing.T) {
	all := func(n api.Note, at int, is func(x byte) bool) {
		t.Helper()
		b := []byte(bytesOf(n))
		for x := range 256 {
			b[at] = byte(x)
			n, e := note.Take(string(b))
			if is(byte(x)) != (e == api.OK) || e != api.OK && (e != api.ErrBytes || n != (api.Note{})) {
				t.Error("Take", n, at, x, e)
			}
		}
	}
	whatever := func(byte) bool { return true }
	zero := func(x byte) bool { return x == 0 }
	core := func(x byte) bool { return x >= 1 && x <= 16 }
	flags := map[uint8]string{3: "\x02\x03", 6: "\x06\x0a\x0e", 9: "\x00\x02"}
	for _, k := range kinds {
		n := k.between(3, 3)
		from, to, stamp, word := zero, core, zero, zero
		if k.toHome {
			from, to = core, zero
		}
		if k.stamp {
			stamp = whatever
		}
		if n.Has {
			word = whatever
		}
		all(n, 1, from)
		all(n, 2, to)
		all(n, 3, whatever)
		all(n, 4, zero)
		for at := 5; at < 13; at++ {
			all(n, at, stamp)
		}
		all(n, 13, func(x byte) bool {
			l := flags[k.number]
			return l == "" && x == 0 || strings.IndexByte(l, x) >= 0
		})
		for at := 14; at < 78; at++ {
			all(n, at, word)
		}
	}
	n := kinds[8].between(3, 3)
	n.Has, n.Data = true, api.Block{4: 1}
	all(n, 13, func(x byte) bool { return x == 2 })
}

// P8.3: Take of Put is the note, and no two notes have the same bytes.
func TestTakeOfPut(t *testing.T) {
	of := map[string]api.Note{}
	for _, n := range notes() {
		s, e := note.Put(n)
		m, f := note.Take(s)
		if e != api.OK || f != api.OK || m != n || len(s) != 78 {
			t.Error(n, e, m, f, len(s))
		}
		if m, is := of[s]; is && m != n {
			t.Error("alike", n, m)
		}
		of[s] = n
	}
}

// P8.3: Put of what Take tells is what it took, of bytes as they come; what Take tells is a note that may be.
func TestPutOfTake(t *testing.T) {
	m, notes := uint32(8), 0
	next := func(below int) int {
		m = m*1664525 + 1013904223
		return int(m>>8) % below
	}
	l := plain()
	for range 200000 {
		b := []byte(bytesOf(l[next(len(l))]))
		for range 1 + next(3) {
			at := next(78)
			if next(2) == 0 {
				at = []int{0, 1, 2, 3, 4, 13}[next(6)]
			}
			b[at] = byte(next(256))
			if next(2) == 0 {
				b[at] %= 16
			}
		}
		s := string(b)
		want, is := told(s)
		if !is {
			isNone(t, s)
			continue
		}
		notes++
		n, e := note.Take(s)
		if back, f := note.Put(n); back != s || n != want || e != api.OK || f != api.OK || note.May(n) != api.OK {
			t.Errorf("%x %v %v %x %v", s, n, e, back, f)
		}
	}
	if notes < 10000 || notes > 190000 {
		t.Error("notes", notes)
	}
}

// R5: the same again and again, whatever was asked between.
func TestAgain(t *testing.T) {
	for range 3 {
		for _, n := range plain() {
			may(t, n)
			n.Block = 256
			mayNot(t, n)
			isNone(t, "")
		}
	}
}

// The chapter's table.
func TestExamples(t *testing.T) {
	s, e := note.Put(api.Note{Kind: api.NtGetS, From: 2, To: api.Home, Block: 5, Stamp: 3})
	if e != api.OK || len(s) != api.NoteBytes || s[:6] != "\x01\x03\x00\x05\x00\x03" {
		t.Errorf("Put %x %v", s, e)
	}
	if e := note.May(api.Note{}); e != api.ErrArg {
		t.Error("May", e)
	}
	for k, want := range map[uint8]int{3: 0, 4: 1, 11: 2, 12: -1} {
		if net := note.Net(k); net != want {
			t.Error("Net", k, net)
		}
	}
}
