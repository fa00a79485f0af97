package step_test

import (
	"math"
	"testing"

	"undertow/api"
	"undertow/code"
	"undertow/step"
)

type registers = [16]uint32

const wrap = 1 << 32

// threes, branches, nones, asking are Ops, as the chapter has them.
var (
	threes   = []uint8{api.OpAdd, api.OpSub, api.OpAnd, api.OpOr, api.OpXor, api.OpLess, api.OpMul}
	branches = []uint8{api.OpBeq, api.OpBne, api.OpBlt}
	nones    = []uint8{api.OpHalt, api.OpLoad, api.OpStore, api.OpSwap, api.OpBegin, api.OpEnd, api.OpAbort, api.OpTest}
	asking   = []uint8{api.OpLoad, api.OpStore, api.OpSwap}
)

// words are of edges, and next to them.
var words = []uint32{
	0, 1, 2, 3, 5, 7, 8, 255, 256, 8191, 8192, 65535, 65536, 65537, 0x55555555, 0xaaaaaaaa,
	0x7ffffffe, 0x7fffffff, 0x80000000, 0x80000001, 0xffff0000, 0xffffe000, 0xfffffffe, 0xffffffff,
}

// places are those that there are: the edges, and what lies between them.
var places = []int{0, 1, 2, 10, 511, 512, 1022, 1023, 1024}

// noPlaces are beside those that there are, huge, and such as are like them if upper bits were dropped.
var noPlaces = []int{
	-1, -2, -1024, 1025, 1026, 2048, math.MinInt, math.MinInt + 1, math.MinInt32, math.MaxInt, math.MaxInt - 1, math.MaxInt32, math.MaxUint32,
	1 << 16, 1 << 32, 1<<32 + 5, 1<<32 - 1, 1 << 62, -1 << 32, 5 - 1<<32, -1 << 62,
}

// noRegisters are numbers that are none's.
var noRegisters = []int{
	-1, -2, -15, -16, -17, 16, 17, 18, 31, 32, 255, 256, 257, math.MinInt, math.MinInt + 1, math.MinInt32, math.MaxInt, math.MaxInt32, math.MaxUint32,
	1 << 16, 1<<16 + 3, 1 << 32, 1<<32 + 3, 1 << 62, -1 << 32, 3 - 1<<32, -1 << 62,
}

// mayNot are instructions that may not be, of each Op and of those that there are not.
var mayNot = []api.Code{
	{Op: 22}, {Op: 23}, {Op: 128, A: 1}, {Op: 255},
	{Op: api.OpHalt, A: 1}, {Op: api.OpEnd, N: 1}, {Op: api.OpFence, B: 1}, {Op: api.OpFence, N: -1},
	{Op: api.OpAdd, A: 16}, {Op: api.OpAdd, A: -1}, {Op: api.OpSub, B: 16}, {Op: api.OpSub, B: -1},
	{Op: api.OpAnd, C: 16}, {Op: api.OpAnd, C: -1}, {Op: api.OpOr, A: math.MaxInt}, {Op: api.OpXor, B: math.MinInt},
	{Op: api.OpLess, A: 1, N: 1}, {Op: api.OpMul, A: 1, B: 2, C: 1<<32 + 3},
	{Op: api.OpAddi, A: 1, B: 2, C: 3}, {Op: api.OpAddi, A: 1, B: 2, N: 8192}, {Op: api.OpAddi, A: 1, B: 2, N: -8193}, {Op: api.OpAddi, A: 16},
	{Op: api.OpSet, A: 16}, {Op: api.OpSet, A: 1, B: 1}, {Op: api.OpSet, A: 1, N: 2097152}, {Op: api.OpSet, A: 1, N: -2097153},
	{Op: api.OpBeq, A: -1}, {Op: api.OpBeq, A: 1, B: 16}, {Op: api.OpBne, C: 1}, {Op: api.OpBlt, A: 1, B: 2, N: 8192}, {Op: api.OpBlt, N: math.MaxInt},
	{Op: api.OpJump, A: 1}, {Op: api.OpJump, N: 2097152}, {Op: api.OpJump, N: -2097153}, {Op: api.OpJump, N: math.MaxInt}, {Op: api.OpJump, N: math.MinInt},
	{Op: api.OpBegin, B: 1}, {Op: api.OpBegin, N: 2097152}, {Op: api.OpAbort, N: 256}, {Op: api.OpAbort, N: -1}, {Op: api.OpTest, A: 16}, {Op: api.OpTest, N: 1},
	{Op: api.OpLoad, A: 16}, {Op: api.OpLoad, A: 1, B: -1}, {Op: api.OpLoad, C: 1}, {Op: api.OpLoad, A: 1, B: 2, N: 8192},
	{Op: api.OpStore, B: 16}, {Op: api.OpStore, A: 1, B: 2, N: -8193}, {Op: api.OpSwap, A: 1, B: 2, C: 16}, {Op: api.OpSwap, A: 1, B: 2, N: 1},
}

func in(l []uint8, op uint8) bool {
	for _, x := range l {
		if x == op {
			return true
		}
	}
	return false
}

// bits is a word whose bits are made, one by one, of those of two.
func bits(x, y uint64, of func(a, b bool) bool) uint64 {
	z := uint64(0)
	for i := range 32 {
		if of(x>>i%2 == 1, y>>i%2 == 1) {
			z += 1 << i
		}
	}
	return z
}

// word is a number by 2^32.
func word(n int) uint64 { return uint64((n%wrap + wrap) % wrap) }

// told is what A becomes, as the chapter's words have it, if it becomes anything.
func told(regs registers, c api.Code) (uint32, bool) {
	x, y := uint64(regs[c.B]), uint64(regs[c.C])
	var z uint64
	switch c.Op {
	case api.OpAdd:
		z = x + y
	case api.OpSub:
		z = wrap + x - y
	case api.OpAnd:
		z = bits(x, y, func(a, b bool) bool { return a && b })
	case api.OpOr:
		z = bits(x, y, func(a, b bool) bool { return a || b })
	case api.OpXor:
		z = bits(x, y, func(a, b bool) bool { return a != b })
	case api.OpLess:
		if x < y {
			z = 1
		}
	case api.OpMul:
		z = x * y
	case api.OpAddi:
		z = x + word(c.N)
	case api.OpSet:
		z = word(c.N)
	default:
		return 0, false
	}
	return uint32(z % wrap), true
}

// leads tells whether a core goes on N beyond the next place.
func leads(regs registers, c api.Code) bool {
	x, y := uint64(regs[c.A]), uint64(regs[c.B])
	return c.Op == api.OpBeq && x == y || c.Op == api.OpBne && x != y || c.Op == api.OpBlt && x < y || c.Op == api.OpJump
}

// wanted is P19.1.
func wanted(regs registers, at int, c api.Code) (registers, int, api.Errno) {
	if code.May(c) != api.OK || at < 0 || at > 1024 {
		return registers{}, 0, api.ErrArg
	}
	if in(nones, c.Op) {
		return registers{}, 0, api.ErrNone
	}
	regs[0] = 0
	to := at + 1
	if leads(regs, c) {
		to += c.N
	}
	if x, is := told(regs, c); is && c.A != 0 {
		regs[c.A] = x
	}
	return regs, to, api.OK
}

// do asks Do, and holds it against what is wanted.
func do(t *testing.T, regs registers, at int, c api.Code) (registers, int, api.Errno) {
	t.Helper()
	was := regs
	next, to, e := step.Do(regs, at, c)
	if n, p, f := wanted(regs, at, c); next != n || to != p || e != f {
		t.Fatalf("Do %v %d %v:\n%v %d %v, not\n%v %d %v", regs, at, c, next, to, e, n, p, f)
	}
	if regs != was {
		t.Fatal("what was handed in", regs, was)
	}
	return next, to, e
}

// arg asks for what is refused by ErrArg.
func arg(t *testing.T, regs registers, at int, c api.Code) {
	t.Helper()
	if next, to, e := step.Do(regs, at, c); next != (registers{}) || to != 0 || e != api.ErrArg {
		t.Error("Do", at, c, next, to, e)
	}
}

// full are registers of which each is another one, and the register 0 is not 0.
func full() registers {
	var regs registers
	for i := range regs {
		regs[i] = uint32(1000003*i + 77)
	}
	return regs
}

// mixed answers numbers below a bound, one behind the other, that look like none of a row.
func mixed(seed uint32) func(below int) int {
	m := seed
	return func(below int) int {
		m = m*1664525 + 1013904223
		return int(m>>8) % below
	}
}

// some is a word out of a row, or any one.
func some(next func(int) int) uint32 {
	if next(3) > 0 {
		return words[next(len(words))]
	}
	return uint32(next(1<<16)<<16 + next(1<<16))
}

// instruction is one of an Op that may be.
func instruction(next func(int) int, op uint8) api.Code {
	c := api.Code{Op: op}
	near := []int{-8192, -8191, -1025, -4, -1, 0, 1, 2, 1024, 8190, 8191, next(16384) - 8192}
	far := []int{-2097152, -2097151, -1025, -1, 0, 1, 1024, 2097150, 2097151, next(4194304) - 2097152}
	switch op {
	case api.OpHalt, api.OpEnd, api.OpFence:
	case api.OpJump, api.OpBegin:
		c.N = far[next(len(far))]
	case api.OpSet:
		c.A, c.N = next(16), far[next(len(far))]
	case api.OpAbort:
		c.N = next(256)
	case api.OpTest:
		c.A = next(16)
	case api.OpAddi, api.OpLoad, api.OpStore, api.OpBeq, api.OpBne, api.OpBlt:
		c.A, c.B, c.N = next(16), next(16), near[next(len(near))]
	default:
		c.A, c.B, c.C = next(16), next(16), next(16)
	}
	return c
}

func TestNumbersOfTheDocument(t *testing.T) {
	if api.OK != 0 || api.ErrArg != 2 || api.ErrNone != 4 || api.Regs != 16 || api.MaxCode != 1024 {
		t.Error(api.OK, api.ErrArg, api.ErrNone, api.Regs, api.MaxCode)
	}
}

// P19.1: an instruction of each Op, and what is behind it, written out.
func TestEachOp(t *testing.T) {
	regs := registers{1: 12, 2: 10, 3: 0xfffffff0, 4: 0x80000000}
	for _, r := range []struct {
		c  api.Code
		n  int // the register that becomes x
		x  uint32
		to int
	}{
		{c: api.Code{Op: api.OpAdd, A: 5, B: 1, C: 2}, n: 5, x: 22, to: 8},
		{c: api.Code{Op: api.OpAdd, A: 5, B: 3, C: 3}, n: 5, x: 0xffffffe0, to: 8},
		{c: api.Code{Op: api.OpAdd, A: 5, B: 4, C: 4}, n: 5, x: 0, to: 8},
		{c: api.Code{Op: api.OpSub, A: 6, B: 1, C: 2}, n: 6, x: 2, to: 8},
		{c: api.Code{Op: api.OpSub, A: 6, B: 2, C: 1}, n: 6, x: 0xfffffffe, to: 8},
		{c: api.Code{Op: api.OpAnd, A: 7, B: 1, C: 2}, n: 7, x: 8, to: 8},
		{c: api.Code{Op: api.OpOr, A: 8, B: 1, C: 2}, n: 8, x: 14, to: 8},
		{c: api.Code{Op: api.OpXor, A: 9, B: 1, C: 2}, n: 9, x: 6, to: 8},
		{c: api.Code{Op: api.OpLess, A: 10, B: 1, C: 2}, n: 10, x: 0, to: 8},
		{c: api.Code{Op: api.OpLess, A: 10, B: 2, C: 1}, n: 10, x: 1, to: 8},
		{c: api.Code{Op: api.OpLess, A: 10, B: 2, C: 2}, n: 10, x: 0, to: 8},
		{c: api.Code{Op: api.OpLess, A: 10, B: 1, C: 4}, n: 10, x: 1, to: 8},
		{c: api.Code{Op: api.OpLess, A: 10, B: 4, C: 1}, n: 10, x: 0, to: 8},
		{c: api.Code{Op: api.OpMul, A: 11, B: 1, C: 2}, n: 11, x: 120, to: 8},
		{c: api.Code{Op: api.OpMul, A: 11, B: 3, C: 3}, n: 11, x: 256, to: 8},
		{c: api.Code{Op: api.OpAddi, A: 12, B: 1, N: 8191}, n: 12, x: 8203, to: 8},
		{c: api.Code{Op: api.OpAddi, A: 12, B: 1, N: -13}, n: 12, x: 0xffffffff, to: 8},
		{c: api.Code{Op: api.OpAddi, A: 12, B: 3, N: 17}, n: 12, x: 1, to: 8},
		{c: api.Code{Op: api.OpSet, A: 13, N: 2097151}, n: 13, x: 2097151, to: 8},
		{c: api.Code{Op: api.OpSet, A: 13, N: -1}, n: 13, x: 0xffffffff, to: 8},
		{c: api.Code{Op: api.OpSet, A: 13, N: -2097152}, n: 13, x: 0xffe00000, to: 8},
		{c: api.Code{Op: api.OpBeq, A: 1, B: 1, N: 20}, to: 28},
		{c: api.Code{Op: api.OpBeq, A: 1, B: 2, N: 20}, to: 8},
		{c: api.Code{Op: api.OpBne, A: 1, B: 1, N: 20}, to: 8},
		{c: api.Code{Op: api.OpBne, A: 1, B: 2, N: 20}, to: 28},
		{c: api.Code{Op: api.OpBlt, A: 1, B: 2, N: 20}, to: 8},
		{c: api.Code{Op: api.OpBlt, A: 2, B: 1, N: 20}, to: 28},
		{c: api.Code{Op: api.OpBlt, A: 1, B: 1, N: 20}, to: 8},
		{c: api.Code{Op: api.OpBlt, A: 4, B: 1, N: 20}, to: 8},
		{c: api.Code{Op: api.OpBlt, A: 1, B: 4, N: -8192}, to: -8184},
		{c: api.Code{Op: api.OpJump, N: 20}, to: 28},
		{c: api.Code{Op: api.OpJump, N: -1}, to: 7},
		{c: api.Code{Op: api.OpJump}, to: 8},
		{c: api.Code{Op: api.OpFence}, to: 8},
	} {
		want := regs
		want[r.n] = r.x
		if next, to, e := step.Do(regs, 7, r.c); next != want || to != r.to || e != api.OK {
			t.Error(r.c, next, to, e)
		}
		do(t, regs, 7, r.c)
	}
}

// P19.1: each two of edge words, by each instruction that has two.
func TestEachTwoWords(t *testing.T) {
	for _, x := range words {
		for _, y := range words {
			regs := registers{3: x, 9: y, 14: 99}
			for _, op := range threes {
				do(t, regs, 4, api.Code{Op: op, A: 14, B: 3, C: 9})
				do(t, regs, 4, api.Code{Op: op, A: 3, B: 3, C: 9})
				do(t, regs, 4, api.Code{Op: op, A: 9, B: 3, C: 9})
				do(t, regs, 4, api.Code{Op: op, A: 0, B: 3, C: 9})
				do(t, regs, 4, api.Code{Op: op, A: 14, B: 3, C: 3})
			}
			for _, op := range branches {
				do(t, regs, 4, api.Code{Op: op, A: 3, B: 9, N: 50})
				do(t, regs, 4, api.Code{Op: op, A: 3, B: 9, N: -50})
			}
		}
	}
}

// P19.1: numbers of Addi and Set, with each edge word.
func TestEachNumber(t *testing.T) {
	for _, x := range words {
		regs := registers{1: x, 15: 3}
		for n := -8192; n <= 8191; n++ {
			if n > -8180 && n < 8180 && n%97 != 0 && n*n > 100 {
				continue
			}
			do(t, regs, 0, api.Code{Op: api.OpAddi, A: 15, B: 1, N: n})
			do(t, regs, 0, api.Code{Op: api.OpAddi, A: 1, B: 1, N: n})
		}
		for n := -2097152; n <= 2097151; n += 1023 {
			do(t, regs, 0, api.Code{Op: api.OpSet, A: 1, N: n})
		}
	}
}

// P19.1: all registers that three may have, those that are one with it.
func TestAllRegisters(t *testing.T) {
	regs := full()
	for a := range 16 {
		for b := range 16 {
			for _, op := range []uint8{api.OpAddi, api.OpBeq, api.OpBne, api.OpBlt} {
				do(t, regs, 5, api.Code{Op: op, A: a, B: b, N: 12})
			}
			for c := range 16 {
				for _, op := range threes {
					do(t, regs, 5, api.Code{Op: op, A: a, B: b, C: c})
				}
			}
		}
		do(t, regs, 5, api.Code{Op: api.OpSet, A: a, N: 12})
	}
}

// P19.1: the register 0 counts as 0, whatever is handed in, and is 0 in what is told.
func TestRegisterZero(t *testing.T) {
	for _, x := range words {
		regs := registers{0: x, 1: 6}
		if next, _, e := step.Do(regs, 0, api.Code{Op: api.OpAdd, A: 2, B: 0, C: 1}); next != (registers{1: 6, 2: 6}) || e != api.OK {
			t.Error("Add", x, next, e)
		}
		if next, _, e := step.Do(regs, 0, api.Code{Op: api.OpSub, A: 2, B: 1, C: 0}); next != (registers{1: 6, 2: 6}) || e != api.OK {
			t.Error("Sub", x, next, e)
		}
		if next, _, e := step.Do(regs, 0, api.Code{Op: api.OpAddi, A: 2, B: 0, N: 5}); next != (registers{1: 6, 2: 5}) || e != api.OK {
			t.Error("Addi", x, next, e)
		}
		for _, c := range []api.Code{
			{Op: api.OpSet, N: 9}, {Op: api.OpSet}, {Op: api.OpAddi, B: 1, N: 1}, {Op: api.OpMul, B: 1, C: 1},
			{Op: api.OpFence}, {Op: api.OpJump}, {Op: api.OpBeq, A: 1}, {Op: api.OpBne, A: 0, B: 0, N: 5}, {Op: api.OpBlt, A: 1, B: 1, N: 5},
		} {
			if next, to, e := step.Do(regs, 3, c); next != (registers{1: 6}) || to != 4 || e != api.OK {
				t.Error(x, c, next, to, e)
			}
		}
		for _, r := range []struct {
			c  api.Code
			to int
		}{
			{api.Code{Op: api.OpBeq, A: 0, B: 0, N: 9}, 13},
			{api.Code{Op: api.OpBeq, A: 0, B: 5, N: 9}, 13},
			{api.Code{Op: api.OpBeq, A: 5, B: 0, N: 9}, 13},
			{api.Code{Op: api.OpBeq, A: 0, B: 1, N: 9}, 4},
			{api.Code{Op: api.OpBne, A: 0, B: 5, N: 9}, 4},
			{api.Code{Op: api.OpBne, A: 1, B: 0, N: 9}, 13},
			{api.Code{Op: api.OpBlt, A: 0, B: 1, N: 9}, 13},
			{api.Code{Op: api.OpBlt, A: 1, B: 0, N: 9}, 4},
			{api.Code{Op: api.OpBlt, A: 5, B: 0, N: 9}, 4},
		} {
			if next, to, e := step.Do(regs, 3, r.c); next != (registers{1: 6}) || to != r.to || e != api.OK {
				t.Error(x, r.c, next, to, e)
			}
		}
	}
}

// P19.1: each place, and how far from it a core may go on: 0 is the least place, but what lies ahead of it is told as well.
func TestPlaces(t *testing.T) {
	regs := registers{1: 4, 2: 5}
	for at := 0; at <= 1024; at++ {
		if _, to, e := step.Do(regs, at, api.Code{Op: api.OpFence}); to != at+1 || e != api.OK {
			t.Error(at, to, e)
		}
		for _, n := range []int{-8192, -1026, -1025, -1024, -at - 2, -at - 1, -at, -2, -1, 0, 1, 1023 - at, 1024 - at, 8191} {
			do(t, regs, at, api.Code{Op: api.OpBeq, A: 1, B: 1, N: n})
			do(t, regs, at, api.Code{Op: api.OpBne, A: 1, B: 2, N: n})
			do(t, regs, at, api.Code{Op: api.OpBlt, A: 1, B: 2, N: n})
			do(t, regs, at, api.Code{Op: api.OpBlt, A: 2, B: 1, N: n})
			do(t, regs, at, api.Code{Op: api.OpJump, N: n})
		}
	}
	for _, r := range []struct{ at, n, to int }{
		{0, -1, 0}, {0, -2, -1}, {0, -2097152, -2097151}, {1024, 0, 1025}, {1024, 2097151, 2098176}, {1024, -1025, 0}, {1024, -1026, -1},
	} {
		if next, to, e := step.Do(regs, r.at, api.Code{Op: api.OpJump, N: r.n}); next != regs || to != r.to || e != api.OK {
			t.Error(r, next, to, e)
		}
	}
}

// P19.1: places that there are not, with each Op: where both errors would fit, it is ErrArg.
func TestNoPlace(t *testing.T) {
	next := mixed(19)
	for _, at := range noPlaces {
		for op := range uint8(22) {
			for range 20 {
				arg(t, full(), at, instruction(next, op))
			}
		}
	}
}

// P19.1: instructions that may not be, at each kind of place.
func TestMayNotBe(t *testing.T) {
	for _, c := range mayNot {
		for _, at := range places {
			arg(t, full(), at, c)
			arg(t, registers{}, at, c)
		}
		for _, at := range noPlaces {
			arg(t, full(), at, c)
		}
	}
	for op := range 256 {
		c := api.Code{Op: uint8(op)}
		_, _, e := do(t, full(), 3, c)
		if is := e == api.ErrArg; is != (op > 21) {
			t.Error(op, e)
		}
	}
}

// P19.1: what asks something else than registers.
func TestNone(t *testing.T) {
	next := mixed(4)
	for op := range uint8(22) {
		is := in(nones, op)
		for _, at := range places {
			for range 50 {
				c := instruction(next, op)
				regs, to, e := step.Do(full(), at, c)
				if is && (regs != registers{} || to != 0 || e != api.ErrNone) {
					t.Error(at, c, regs, to, e)
				}
				if !is && e != api.OK {
					t.Error(at, c, e)
				}
			}
		}
	}
}

// P19.2: the address of Load and Store is B and N, by 2^32.
func TestAddr(t *testing.T) {
	for _, r := range []struct {
		x    uint32
		n    int
		addr uint32
	}{
		{0, 0, 0}, {0, 4, 4}, {0, -4, 0xfffffffc}, {100, -4, 96}, {100, 8191, 8291}, {100, -8192, 0xffffe064},
		{0xffffffff, 1, 0}, {0xffffffff, 8191, 8190}, {0xffffe000, 8191, 0xffffffff}, {0x7fffffff, 1, 0x80000000}, {0x80000000, -1, 0x7fffffff}, {8192, -8192, 0},
	} {
		for b := 1; b < 16; b++ {
			regs := full()
			regs[b] = r.x
			for _, op := range []uint8{api.OpLoad, api.OpStore} {
				for _, a := range []int{0, 1, b, 15} {
					if addr, e := step.Addr(regs, api.Code{Op: op, A: a, B: b, N: r.n}); addr != r.addr || e != api.OK {
						t.Error(op, a, b, r, addr, e)
					}
				}
			}
		}
	}
	for _, x := range words {
		for n := -8192; n <= 8191; n++ {
			want := uint32((uint64(x) + word(n)) % wrap)
			if addr, e := step.Addr(registers{7: x}, api.Code{Op: api.OpLoad, A: 3, B: 7, N: n}); addr != want || e != api.OK {
				t.Fatal(x, n, addr, e)
			}
		}
	}
}

// P19.2: the address of Swap is B, whatever A and C are.
func TestAddrOfSwap(t *testing.T) {
	for _, x := range words {
		for b := 1; b < 16; b++ {
			regs := full()
			regs[b] = x
			for a := range 16 {
				if addr, e := step.Addr(regs, api.Code{Op: api.OpSwap, A: a, B: b, C: 15 - a}); addr != x || e != api.OK {
					t.Error(x, a, b, addr, e)
				}
			}
		}
	}
}

// P19.2: the register 0 is 0 in an address as well.
func TestAddrOfRegisterZero(t *testing.T) {
	for _, x := range words {
		regs := full()
		regs[0] = x
		for _, n := range []int{-8192, -4, 0, 4, 8191} {
			for _, op := range []uint8{api.OpLoad, api.OpStore} {
				if addr, e := step.Addr(regs, api.Code{Op: op, A: 2, N: n}); uint64(addr) != word(n) || e != api.OK {
					t.Error(x, n, addr, e)
				}
			}
		}
		if addr, e := step.Addr(regs, api.Code{Op: api.OpSwap, A: 2, C: 3}); addr != 0 || e != api.OK {
			t.Error(x, addr, e)
		}
	}
}

// P19.2: instructions that may not be, and those that have no address.
func TestNoAddr(t *testing.T) {
	for _, c := range mayNot {
		for _, regs := range []registers{full(), {}} {
			if addr, e := step.Addr(regs, c); addr != 0 || e != api.ErrArg {
				t.Error(c, addr, e)
			}
		}
	}
	next := mixed(7)
	for op := range 256 {
		c, want := api.Code{Op: uint8(op)}, api.ErrNone
		if op > 21 {
			want = api.ErrArg
		} else if in(asking, c.Op) {
			want = api.OK
		}
		for range 50 {
			if op < 22 {
				c = instruction(next, uint8(op))
			}
			if addr, e := step.Addr(full(), c); e != want || e != api.OK && addr != 0 {
				t.Error(c, addr, e)
			}
		}
	}
}

// P19.3: each register that there is, but the register 0.
func TestPutGet(t *testing.T) {
	for n := 1; n < 16; n++ {
		for _, x := range words {
			regs := full()
			want := regs
			want[n] = x
			next := step.Put(regs, n, x)
			if next != want || regs != full() {
				t.Error("Put", n, x, next)
			}
			for m := 1; m < 16; m++ {
				if y := step.Get(next, m); y != want[m] {
					t.Error("Get", n, m, y)
				}
			}
		}
	}
}

// P19.3: the register 0, and those that there are not.
func TestPutGetNone(t *testing.T) {
	for _, n := range append([]int{0}, noRegisters...) {
		for _, x := range words {
			for _, regs := range []registers{full(), {}, {1: 5, 15: 9}} {
				if next := step.Put(regs, n, x); next != regs {
					t.Error("Put", n, x, next)
				}
				if y := step.Get(regs, n); y != 0 {
					t.Error("Get", n, y)
				}
			}
			if y := step.Get(registers{0: x}, n); y != 0 {
				t.Error("Get", n, x, y)
			}
		}
	}
}

// P19.1, P19.4: instructions as they come, held against what they should be; at most one register becomes another one, and the register 0 never.
func TestOneRegisterAtMost(t *testing.T) {
	next, others := mixed(1), 0
	for range 300000 {
		var regs registers
		for i := 1; i < 16; i++ {
			regs[i] = some(next)
		}
		c := instruction(next, uint8(next(22)))
		to, _, e := do(t, regs, next(1025), c)
		if e != api.OK {
			continue
		}
		many := 0
		for i := range regs {
			if to[i] == regs[i] {
				continue
			}
			many++
			if i == 0 || i != c.A || in(branches, c.Op) {
				t.Error(c, i, regs, to)
			}
		}
		if many > 1 {
			t.Error(c, regs, to)
		}
		others += many
	}
	if others < 10000 {
		t.Error("registers that became other ones", others)
	}
}

// P19.1, P19.2: any parts, also those that none may have.
func TestAnyParts(t *testing.T) {
	next := mixed(5)
	parts := append([]int{0, 1, 2, 7, 14, 15, 0, 0}, noRegisters...)
	numbers := []int{0, 0, 0, 1, -1, 255, 256, 8191, 8192, -8192, -8193, 2097151, 2097152, -2097152, -2097153, math.MaxInt, math.MinInt}
	ats := append(append([]int{}, places...), noPlaces...)
	for range 300000 {
		c := api.Code{Op: uint8(next(24)), A: parts[next(len(parts))], B: parts[next(8)], C: parts[next(8)], N: numbers[next(len(numbers))]}
		if next(8) == 0 {
			c.B, c.C = parts[next(len(parts))], parts[next(len(parts))]
		}
		do(t, full(), ats[next(len(ats))], c)
		addr, e := step.Addr(full(), c)
		if may := code.May(c) == api.OK; may == (e == api.ErrArg) || e != api.OK && addr != 0 {
			t.Error("Addr", c, addr, e)
		}
	}
}

// P19.1: a program that goes round: the sum of the numbers from 1 to 10, the product of those from 1 to 12, and what they are by 2^32.
func TestProgram(t *testing.T) {
	for _, r := range []struct {
		op    uint8
		first int
		many  int
		want  uint32
	}{
		{api.OpAdd, 0, 10, 55}, {api.OpMul, 1, 12, 479001600}, {api.OpMul, 1, 13, 1932053504}, {api.OpSub, 0, 10, wrap - 55}, {api.OpXor, 0, 10, 11},
	} {
		program := []api.Code{
			{Op: api.OpSet, A: 1, N: r.first},
			{Op: api.OpSet, A: 2, N: 1},
			{Op: api.OpSet, A: 3, N: r.many},
			{Op: api.OpBlt, A: 3, B: 2, N: 3},
			{Op: r.op, A: 1, B: 1, C: 2},
			{Op: api.OpAddi, A: 2, B: 2, N: 1},
			{Op: api.OpJump, N: -4},
			{Op: api.OpHalt},
		}
		var regs registers
		at, e := 0, api.OK
		for steps := 0; program[at].Op != api.OpHalt && steps < 1000; steps++ {
			if regs, at, e = do(t, regs, at, program[at]); e != api.OK || at < 0 || at > 7 {
				t.Fatal(at, e)
			}
		}
		if at != 7 || regs[1] != r.want || regs[2] != uint32(r.many+1) {
			t.Error(r, at, regs)
		}
	}
}

// R5: the same again and again, whatever was asked between.
func TestTheSameAgain(t *testing.T) {
	for range 3 {
		next := mixed(2)
		for range 5000 {
			c := instruction(next, uint8(next(22)))
			regs, at := full(), next(1025)
			a, p, e := step.Do(regs, at, c)
			arg(t, regs, -1, c)
			step.Put(regs, next(20)-2, 5)
			b, q, f := step.Do(regs, at, c)
			if a != b || p != q || e != f {
				t.Error(c, at, a, p, e, b, q, f)
			}
		}
	}
}

// The chapter's table.
func TestExamples(t *testing.T) {
	if next, to, e := step.Do(registers{1: 5, 2: 7}, 10, api.Code{Op: api.OpSub, A: 3, B: 1, C: 2}); next != (registers{1: 5, 2: 7, 3: 4294967294}) || to != 11 || e != api.OK {
		t.Error(next, to, e)
	}
	regs := registers{1: 5}
	if next, to, e := step.Do(regs, 10, api.Code{Op: api.OpBeq, A: 1, B: 1, N: -3}); next != regs || to != 8 || e != api.OK {
		t.Error(next, to, e)
	}
	if next, to, e := step.Do(regs, 10, api.Code{Op: api.OpBne, A: 1, B: 1, N: -3}); next != regs || to != 11 || e != api.OK {
		t.Error(next, to, e)
	}
	if addr, e := step.Addr(registers{2: 100}, api.Code{Op: api.OpLoad, A: 1, B: 2, N: -4}); addr != 96 || e != api.OK {
		t.Error(addr, e)
	}
	if next, to, e := step.Do(regs, 10, api.Code{Op: api.OpHalt}); next != (registers{}) || to != 0 || e != api.ErrNone {
		t.Error(next, to, e)
	}
}
