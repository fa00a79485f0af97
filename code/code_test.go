package code_test

import (
	"math"
	"testing"

	"undertow/api"
	"undertow/code"
)

// form is what the chapter's table says of one: which registers it uses, and what N may be.
type form struct {
	name        string
	ops         []uint8
	a, b, c     bool
	least, most int
	bits        int // of the word, that tell N
}

var table = []form{
	{name: "none", ops: []uint8{0, 18, 21}},
	{name: "three", ops: []uint8{1, 2, 3, 4, 5, 6, 7, 11}, a: true, b: true, c: true},
	{name: "near", ops: []uint8{8, 9, 10, 13, 14, 15}, a: true, b: true, least: -8192, most: 8191, bits: 14},
	{name: "set", ops: []uint8{12}, a: true, least: -2097152, most: 2097151, bits: 22},
	{name: "far", ops: []uint8{16, 17}, least: -2097152, most: 2097151, bits: 22},
	{name: "code", ops: []uint8{19}, most: 255, bits: 22},
	{name: "one", ops: []uint8{20}, a: true},
}

// formOf is the form of an Op, if it is one's.
func formOf(op uint8) (form, bool) {
	for _, f := range table {
		for _, o := range f.ops {
			if o == op {
				return f, true
			}
		}
	}
	return form{}, false
}

// mayBe is the chapter's first paragraph.
func mayBe(c api.Code) bool {
	f, is := formOf(c.Op)
	return is && register(c.A, f.a) && register(c.B, f.b) && register(c.C, f.c) && c.N >= f.least && c.N <= f.most
}

func register(x int, used bool) bool {
	if !used {
		return x == 0
	}
	return x >= 0 && x <= 15
}

// wordOf is the chapter's last paragraph of 'Words', of an instruction that may be.
func wordOf(c api.Code) uint32 {
	f, _ := formOf(c.Op)
	n := c.N
	if n < 0 {
		n += 1 << f.bits
	}
	return uint32(67108864*int(c.Op) + 4194304*c.A + 262144*c.B + 16384*c.C + n)
}

// told is the instruction whose word x is, if there is one.
func told(x uint32) (api.Code, bool) {
	f, is := formOf(uint8(x / 67108864))
	if !is {
		return api.Code{}, false
	}
	c := api.Code{Op: uint8(x / 67108864), A: int(x / 4194304 % 16)}
	rest := int(x % 4194304)
	if f.bits < 22 {
		c.B, c.C, rest = rest/262144, rest/16384%16, rest%16384
	}
	if c.N = rest; rest > f.most && f.least < 0 {
		c.N -= 1 << f.bits
	}
	if !mayBe(c) || wordOf(c) != x {
		return api.Code{}, false
	}
	return c, true
}

// huge are numbers far from all that an instruction has, and such as are like small ones if upper bits were dropped.
var huge = []int{
	math.MinInt, math.MinInt + 1, math.MinInt32, math.MinInt32 - 1, math.MaxInt, math.MaxInt - 1, math.MaxInt32, math.MaxUint32,
	1 << 8, 1<<8 + 3, 1 << 14, 1<<14 + 3, 1 << 16, 1<<16 + 3, 1 << 22, 1<<22 + 3, 1 << 26, 1<<26 + 3, 1 << 32, 1<<32 - 1, 1<<32 + 3,
	1 << 36, 1 << 62, 1<<62 + 3, -1 << 8, -1<<8 + 3, -1 << 14, -1<<14 + 3, -1 << 16, -1 << 22, -1<<22 + 3, -1 << 32, -1<<32 + 3, -1 << 62,
}

// some are registers, and numbers beside them.
var some = []int{-16, -15, -2, -1, 0, 1, 2, 7, 8, 14, 15, 16, 17, 31, 32}

// numbers are of all bounds that N has, and beside them.
var numbers = []int{
	-4194304, -2097154, -2097153, -2097152, -2097151, -16384, -8194, -8193, -8192, -8191, -256, -255, -4, -2, -1, 0, 1, 2, 3,
	127, 128, 254, 255, 256, 257, 4095, 4096, 8190, 8191, 8192, 8193, 16383, 16384, 2097150, 2097151, 2097152, 2097153, 4194303, 4194304,
}

// may asks all calls for an instruction that may be.
func may(t *testing.T, c api.Code) {
	t.Helper()
	if e := code.May(c); e != api.OK {
		t.Error("May", c, e)
	}
	want := wordOf(c)
	if x, e := code.Put(c); x != want || e != api.OK {
		t.Errorf("Put %v %#x %v not %#x", c, x, e, want)
	}
	if d, e := code.Take(want); d != c || e != api.OK {
		t.Errorf("Take %#x %v %v not %v", want, d, e, c)
	}
}

// mayNot asks May and Put for an instruction that may not be.
func mayNot(t *testing.T, c api.Code) {
	t.Helper()
	if e := code.May(c); e != api.ErrArg {
		t.Error("May", c, e)
	}
	if x, e := code.Put(c); x != 0 || e != api.ErrArg {
		t.Errorf("Put %v %#x %v", c, x, e)
	}
}

// asked asks for an instruction, as the chapter's words have it, and tells whether it may be.
func asked(t *testing.T, c api.Code) bool {
	t.Helper()
	is := mayBe(c)
	if is {
		may(t, c)
	} else {
		mayNot(t, c)
	}
	return is
}

// taken asks Take for a word, as the chapter's words have it, and tells whether it is an instruction's.
func taken(t *testing.T, x uint32) bool {
	t.Helper()
	want, is := told(x)
	e := api.ErrBytes
	if is {
		e = api.OK
	}
	c, f := code.Take(x)
	if c != want || f != e {
		t.Errorf("Take %#x %v %v not %v %v", x, c, f, want, e)
	}
	if y, g := code.Put(c); is && (y != x || g != api.OK) {
		t.Errorf("Put of Take %#x %v %#x %v", x, c, y, g)
	}
	return is
}

// edges are instructions of an Op with each of its parts at, and next to, its bounds.
func edges(op uint8) []api.Code {
	f, _ := formOf(op)
	var l []api.Code
	for _, a := range partEdges(f.a) {
		for _, b := range partEdges(f.b) {
			for _, c := range partEdges(f.c) {
				for _, n := range []int{f.least, f.least + 1, -1, 0, 1, f.most - 1, f.most} {
					if d := (api.Code{Op: op, A: a, B: b, C: c, N: n}); mayBe(d) {
						l = append(l, d)
					}
				}
			}
		}
	}
	return l
}

func partEdges(used bool) []int {
	if used {
		return []int{0, 1, 8, 14, 15}
	}
	return []int{0}
}

// mixed answers numbers below a bound, one behind the other, that look like none of a row.
func mixed(seed uint32) func(below int) int {
	m := seed
	return func(below int) int {
		m = m*1664525 + 1013904223
		return int(m>>8) % below
	}
}

func TestNumbersOfTheDocument(t *testing.T) {
	if api.OK != 0 || api.ErrArg != 2 || api.ErrBytes != 6 {
		t.Error("errors", api.OK, api.ErrArg, api.ErrBytes)
	}
	if api.Regs != 16 || api.Ops != 22 {
		t.Error("limits", api.Regs, api.Ops)
	}
	ops := []uint8{
		api.OpHalt, api.OpAdd, api.OpSub, api.OpAnd, api.OpOr, api.OpXor, api.OpLess, api.OpMul, api.OpAddi, api.OpLoad, api.OpStore,
		api.OpSwap, api.OpSet, api.OpBeq, api.OpBne, api.OpBlt, api.OpJump, api.OpBegin, api.OpEnd, api.OpAbort, api.OpTest, api.OpFence,
	}
	for i, op := range ops {
		if _, is := formOf(op); int(op) != i || !is {
			t.Error("ops", i, op)
		}
	}
	if _, is := formOf(22); is || len(ops) != 22 {
		t.Error("ops", len(ops))
	}
}

// P18.1, P18.2: an instruction of each Op, and its word, written out.
func TestEachOp(t *testing.T) {
	for _, r := range []struct {
		c    api.Code
		word uint32
	}{
		{api.Code{Op: api.OpHalt}, 0x00000000},
		{api.Code{Op: api.OpAdd, A: 1, B: 2, C: 3}, 0x0448c000},
		{api.Code{Op: api.OpSub, A: 15, B: 15, C: 15}, 0x0bffc000},
		{api.Code{Op: api.OpAnd, A: 8}, 0x0e000000},
		{api.Code{Op: api.OpOr, B: 8}, 0x10200000},
		{api.Code{Op: api.OpXor, C: 8}, 0x14020000},
		{api.Code{Op: api.OpLess, A: 1, B: 1, C: 1}, 0x18444000},
		{api.Code{Op: api.OpMul}, 0x1c000000},
		{api.Code{Op: api.OpAddi, A: 1, B: 1, N: -1}, 0x20443fff},
		{api.Code{Op: api.OpLoad, A: 15, B: 14, N: -8192}, 0x27f82000},
		{api.Code{Op: api.OpStore, A: 0, B: 15, N: 8191}, 0x283c1fff},
		{api.Code{Op: api.OpSwap, A: 14, B: 11, C: 13}, 0x2faf4000},
		{api.Code{Op: api.OpSet, A: 2, N: -1}, 0x30bfffff},
		{api.Code{Op: api.OpSet, A: 15, N: 2097151}, 0x33dfffff},
		{api.Code{Op: api.OpSet, N: -2097152}, 0x30200000},
		{api.Code{Op: api.OpBeq, A: 1, B: 2, N: 3}, 0x34480003},
		{api.Code{Op: api.OpBne, A: 1, B: 0, N: -2}, 0x38403ffe},
		{api.Code{Op: api.OpBlt, A: 3, B: 4, N: 255}, 0x3cd000ff},
		{api.Code{Op: api.OpJump, N: -3}, 0x403ffffd},
		{api.Code{Op: api.OpBegin, N: 1000}, 0x440003e8},
		{api.Code{Op: api.OpEnd}, 0x48000000},
		{api.Code{Op: api.OpAbort, N: 255}, 0x4c0000ff},
		{api.Code{Op: api.OpAbort}, 0x4c000000},
		{api.Code{Op: api.OpTest, A: 15}, 0x53c00000},
		{api.Code{Op: api.OpTest}, 0x50000000},
		{api.Code{Op: api.OpFence}, 0x54000000},
	} {
		may(t, r.c)
		if x, e := code.Put(r.c); x != r.word || e != api.OK {
			t.Errorf("Put %v %#x %v not %#x", r.c, x, e, r.word)
		}
		if c, e := code.Take(r.word); c != r.c || e != api.OK {
			t.Errorf("Take %#x %v %v not %v", r.word, c, e, r.c)
		}
	}
}

// P18.1: instructions that may not be, written out.
func TestEachFault(t *testing.T) {
	for _, c := range []api.Code{
		{Op: 22},
		{Op: 22, A: 1},
		{Op: 255},
		{Op: api.OpHalt, A: 1},
		{Op: api.OpHalt, N: 1},
		{Op: api.OpEnd, B: 1},
		{Op: api.OpFence, C: 1},
		{Op: api.OpFence, N: -1},
		{Op: api.OpAdd, A: 16, B: 2, C: 3},
		{Op: api.OpAdd, A: -1, B: 2, C: 3},
		{Op: api.OpMul, A: 1, B: 16, C: 3},
		{Op: api.OpSwap, A: 1, B: 2, C: 16},
		{Op: api.OpSwap, A: 1, B: 2, C: -1},
		{Op: api.OpSwap, A: 1, B: 2, C: 3, N: 1},
		{Op: api.OpLoad, A: 1, B: 2, N: 8192},
		{Op: api.OpLoad, A: 1, B: 2, N: -8193},
		{Op: api.OpAddi, A: 1, B: 2, C: 1, N: 5},
		{Op: api.OpBeq, A: 1, B: -1},
		{Op: api.OpBlt, A: 16},
		{Op: api.OpSet, A: 2, N: 2097152},
		{Op: api.OpSet, A: 2, N: -2097153},
		{Op: api.OpSet, A: 2, B: 1},
		{Op: api.OpSet, A: 2, C: 1},
		{Op: api.OpJump, A: 1, N: 3},
		{Op: api.OpJump, N: 2097152},
		{Op: api.OpBegin, B: 1, N: 3},
		{Op: api.OpBegin, N: -2097153},
		{Op: api.OpAbort, N: 256},
		{Op: api.OpAbort, N: -1},
		{Op: api.OpAbort, A: 1},
		{Op: api.OpTest, A: 16},
		{Op: api.OpTest, B: 1},
		{Op: api.OpTest, A: 1, N: 1},
	} {
		if mayBe(c) {
			t.Error("may be", c)
		}
		mayNot(t, c)
	}
}

// P18.1: each Op that a byte has, with each part at its bounds, beside them, and far off.
func TestEachBound(t *testing.T) {
	parts := append(append([]int{}, some...), huge...)
	ns := append(append([]int{}, numbers...), huge...)
	for op := range 256 {
		c := api.Code{Op: uint8(op)}
		if is := asked(t, c); is != (op < 22) {
			t.Error(c, is)
		}
		for _, a := range parts {
			asked(t, api.Code{Op: c.Op, A: a})
			asked(t, api.Code{Op: c.Op, B: a})
			asked(t, api.Code{Op: c.Op, C: a})
			asked(t, api.Code{Op: c.Op, A: a, B: 15, C: 1})
			asked(t, api.Code{Op: c.Op, A: 15, B: a, C: 14})
			asked(t, api.Code{Op: c.Op, A: a, B: 2, N: -3})
			asked(t, api.Code{Op: c.Op, A: 3, B: a, N: 200})
		}
		for _, n := range ns {
			asked(t, api.Code{Op: c.Op, N: n})
			asked(t, api.Code{Op: c.Op, A: 15, N: n})
			asked(t, api.Code{Op: c.Op, A: 5, B: 10, N: n})
			asked(t, api.Code{Op: c.Op, A: 5, B: 10, C: 6, N: n})
		}
	}
}

// P18.1, P18.2: each Op with all registers, and numbers beside them.
func TestAllRegisters(t *testing.T) {
	for op := range uint8(24) {
		many := 0
		for a := -1; a <= 16; a++ {
			for b := -1; b <= 16; b++ {
				for c := -1; c <= 16; c++ {
					if asked(t, api.Code{Op: op, A: a, B: b, C: c}) {
						many++
					}
				}
			}
		}
		want := 0
		if f, is := formOf(op); is {
			want = 1
			for _, used := range []bool{f.a, f.b, f.c} {
				if used {
					want *= 16
				}
			}
		}
		if many != want {
			t.Error(op, many, want)
		}
	}
}

// P18.1, P18.2: each number that near may have, and 255 of code, and those beside them.
func TestAllNumbers(t *testing.T) {
	for op := range uint8(22) {
		f, _ := formOf(op)
		many, regs := 0, api.Code{Op: op}
		if f.a {
			regs.A = 9
		}
		if f.b {
			regs.B = 6
		}
		for n := -8300; n <= 8300; n++ {
			regs.N = n
			if asked(t, regs) {
				many++
			}
		}
		if want := min(f.most, 8300) - max(f.least, -8300) + 1; many != want {
			t.Error(op, many, want)
		}
	}
}

// P18.1, P18.2: each number that set and far may have.
func TestAllFarNumbers(t *testing.T) {
	for n := -2097152; n <= 2097151; n++ {
		low := uint32(n) % 4194304
		for _, r := range []struct {
			c    api.Code
			word uint32
		}{
			{api.Code{Op: api.OpSet, A: 10, N: n}, 0x32800000 + low},
			{api.Code{Op: api.OpJump, N: n}, 0x40000000 + low},
		} {
			x, e := code.Put(r.c)
			c, f := code.Take(r.word)
			if x != r.word || e != api.OK || c != r.c || f != api.OK {
				t.Fatalf("%v %#x %v %v %v", r.c, x, e, c, f)
			}
		}
	}
}

// P18.1: an instruction that may be, of which one part is another one.
func TestOnePartAnother(t *testing.T) {
	for op := range uint8(22) {
		for _, c := range edges(op) {
			may(t, c)
			for _, x := range some {
				for i := range 3 {
					d := c
					*[]*int{&d.A, &d.B, &d.C}[i] = x
					asked(t, d)
				}
			}
			for _, x := range numbers {
				d := c
				d.N = x
				asked(t, d)
			}
			d := c
			for d.Op = 0; d.Op < 30; d.Op++ {
				asked(t, d)
			}
		}
	}
}

// P18.2, P18.3: words of instructions, and those that are other ones in one bit, or two.
func TestOneBitAnother(t *testing.T) {
	for op := range uint8(22) {
		for _, c := range edges(op) {
			x := wordOf(c)
			if !taken(t, x) {
				t.Error(c)
			}
			for i := range 32 {
				for j := range i + 1 {
					taken(t, x^1<<i)
					taken(t, x^1<<i^1<<j)
				}
			}
		}
	}
}

// P18.2: words of Ops that there are not, whatever else they have.
func TestNoOp(t *testing.T) {
	for op := uint32(22); op < 64; op++ {
		for _, rest := range []uint32{0, 1, 0x00400000, 0x03c00000, 0x03ffffff, 0x0048c000} {
			x := op*67108864 + rest
			if c, e := code.Take(x); c != (api.Code{}) || e != api.ErrBytes {
				t.Errorf("Take %#x %v %v", x, c, e)
			}
		}
	}
	if c, e := code.Take(math.MaxUint32); c != (api.Code{}) || e != api.ErrBytes {
		t.Error("Take", c, e)
	}
}

// P18.2: bits that a form does not use are 0 in its words; written out for each form.
func TestBitsThatAreNotUsed(t *testing.T) {
	for _, r := range []struct {
		word uint32
		bits uint32 // that it uses
	}{
		{0x00000000, 0},
		{0x48000000, 0},
		{0x54000000, 0},
		{0x04000000, 0x03ffc000},
		{0x2c000000, 0x03ffc000},
		{0x20000000, 0x03fc3fff},
		{0x24000000, 0x03fc3fff},
		{0x28000000, 0x03fc3fff},
		{0x34000000, 0x03fc3fff},
		{0x38000000, 0x03fc3fff},
		{0x3c000000, 0x03fc3fff},
		{0x30000000, 0x03ffffff},
		{0x40000000, 0x003fffff},
		{0x44000000, 0x003fffff},
		{0x4c000000, 0x000000ff},
		{0x50000000, 0x03c00000},
	} {
		for i := range 26 {
			x := r.word | 1<<i
			want := api.ErrBytes
			if r.bits>>i&1 == 1 {
				want = api.OK
			}
			if _, e := code.Take(x); e != want {
				t.Errorf("Take %#x %v not %v", x, e, want)
			}
			taken(t, x)
			taken(t, x|r.bits)
		}
		taken(t, r.word|r.bits)
	}
}

// P18.2, P18.3: words that lie one as far from the next one, over all that there are.
func TestWordsAllOver(t *testing.T) {
	many := 0
	for x := uint64(0); x < 1<<32; x += 12345 {
		if taken(t, uint32(x)) {
			many++
		}
	}
	if many < 1000 {
		t.Error("instructions", many)
	}
}

// P18.3: Take of Put is the instruction, and no two instructions have the same word.
func TestTakeOfPut(t *testing.T) {
	of := map[uint32]api.Code{}
	put := func(c api.Code) {
		x, e := code.Put(c)
		d, f := code.Take(x)
		if e != api.OK || f != api.OK || d != c {
			t.Error(c, e, d, f)
		}
		if d, is := of[x]; is && d != c {
			t.Error("alike", c, d)
		}
		of[x] = c
	}
	next := mixed(18)
	for op := range uint8(22) {
		for _, c := range edges(op) {
			put(c)
		}
		f, _ := formOf(op)
		for range 5000 {
			c := api.Code{Op: op}
			if f.a {
				c.A = next(16)
			}
			if f.b {
				c.B = next(16)
			}
			if f.c {
				c.C = next(16)
			}
			c.N = f.least + next(f.most-f.least+1)
			put(c)
		}
	}
}

// P18.3: Put of what Take tells is what it took, of words as they come; what Take tells may be.
func TestPutOfTake(t *testing.T) {
	next, is := mixed(3), 0
	for range 1000000 {
		x := uint32(next(1<<16)<<16 + next(1<<16))
		switch next(4) {
		case 0:
			x &= 0x53ffc000
		case 1:
			x &= 0x7ffc3fff
		case 2:
			x &= 0x4c0001ff
		}
		if !taken(t, x) {
			continue
		}
		is++
		c, e := code.Take(x)
		y, f := code.Put(c)
		if x != y || e != api.OK || f != api.OK || code.May(c) != api.OK {
			t.Errorf("%#x %v %v %#x %v", x, c, e, y, f)
		}
	}
	if is < 100000 || is > 900000 {
		t.Error("instructions", is)
	}
}

// R5: the same again and again, whatever was asked between.
func TestTheSameAgain(t *testing.T) {
	for range 3 {
		for op := range uint8(22) {
			for _, c := range edges(op) {
				may(t, c)
				c.A = 16
				mayNot(t, c)
				taken(t, math.MaxUint32)
			}
		}
	}
}

// The chapter's table.
func TestExamples(t *testing.T) {
	for _, r := range []struct {
		c    api.Code
		word uint32
	}{
		{api.Code{Op: api.OpHalt}, 0},
		{api.Code{Op: api.OpAdd, A: 1, B: 2, C: 3}, 0x0448c000},
		{api.Code{Op: api.OpSet, A: 2, N: -1}, 0x30bfffff},
	} {
		if x, e := code.Put(r.c); x != r.word || e != api.OK {
			t.Errorf("Put %v %#x %v", r.c, x, e)
		}
	}
	for _, x := range []uint32{0x58000000, 1} {
		if c, e := code.Take(x); c != (api.Code{}) || e != api.ErrBytes {
			t.Errorf("Take %#x %v %v", x, c, e)
		}
	}
}
