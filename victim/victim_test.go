package victim_test

import (
	"math"
	"testing"

	"undertow/api"
	"undertow/victim"
)

var ways = []int{1, 2, 4}

// noWays are next to those that there may be, huge, and such as are like them if upper bits were dropped.
var noWays = []int{
	0, 3, 5, 6, 7, 8, 16, -1, -2, -3, -4, -8,
	math.MinInt, math.MinInt + 1, math.MinInt + 2, math.MinInt + 4, math.MaxInt, math.MaxInt - 1, math.MinInt32, math.MaxInt32, math.MaxUint32,
	1<<8 + 1, 1<<8 + 2, 1<<8 + 4, 1<<16 + 2, 1<<16 + 4, 1<<32 + 1, 1<<32 + 2, 1<<32 + 4, 1 << 32, 1 << 62, 2 - 1<<32, 4 - 1<<32,
}

// notOf are numbers that are no way of a set of so many.
func notOf(ways int) []int {
	l := []int{
		math.MinInt, math.MinInt + 1, math.MinInt32, math.MaxInt, math.MaxInt - 1, math.MaxInt32, math.MaxUint32,
		1 << 8, 1<<8 + 1, 1 << 16, 1<<16 + 1, 1 << 32, 1<<32 + 1, 1<<32 + 3, 1 << 62, -1 << 32, 1 - 1<<32, 3 - 1<<32, -1 << 62,
	}
	for n := range 6 {
		l = append(l, -1-n, ways+n)
	}
	return l
}

// branch is a bit on the way to a way, and where it points if it points there.
type branch struct {
	bit, to int
}

// paths has for so many ways each way's branches, from the bit 0 on, as the chapter's words have them.
func paths(ways int) [][]branch {
	switch ways {
	case 1:
		return [][]branch{{}}
	case 2:
		return [][]branch{{{0, 0}}, {{0, 1}}}
	}
	return [][]branch{
		{{0, 0}, {1, 0}},
		{{0, 0}, {1, 1}},
		{{0, 1}, {2, 0}},
		{{0, 1}, {2, 1}},
	}
}

// weights are what the bits of a memory weigh.
var weights = [8]int{1, 2, 4, 8, 16, 32, 64, 128}

func bitOf(memory, bit int) int { return memory / weights[bit] % 2 }

// used is P6.1 by the paths.
func used(memory, ways, way int) int {
	for _, b := range paths(ways)[way] {
		memory += (1 - b.to - bitOf(memory, b.bit)) * weights[b.bit]
	}
	return memory
}

// next is P6.2 by the paths: the way to which all bits on its path point.
func next(memory, ways int) int {
	for way, path := range paths(ways) {
		points := true
		for _, b := range path {
			points = points && bitOf(memory, b.bit) == b.to
		}
		if points {
			return way
		}
	}
	return -1
}

func use(t *testing.T, memory uint8, ways, way int) uint8 {
	t.Helper()
	m, e := victim.Use(memory, ways, way)
	if e != api.OK {
		t.Fatal("Use", memory, ways, way, e)
	}
	return m
}

func of(t *testing.T, memory uint8, ways int) int {
	t.Helper()
	n, e := victim.Victim(memory, ways)
	if e != api.OK {
		t.Fatal("Victim", memory, ways, e)
	}
	return n
}

func TestNumbersOfTheDocument(t *testing.T) {
	if api.OK != 0 || api.ErrArg != 2 || api.ErrRange != 5 || api.MaxWays != 4 {
		t.Error(api.OK, api.ErrArg, api.ErrRange, api.MaxWays)
	}
}

// P6.1: each memory, each way.
func TestUse(t *testing.T) {
	for memory := range 256 {
		for _, n := range ways {
			for way := range n {
				m, e := victim.Use(uint8(memory), n, way)
				if want := used(memory, n, way); int(m) != want || e != api.OK {
					t.Error(memory, n, way, m, e, "not", want)
				}
			}
		}
	}
}

// P6.1: what of 1 way counts is none, of 2 ways the bit 0, of 4 ways that and the one of the way's half; all others stay.
func TestOtherBitsStay(t *testing.T) {
	touched := map[int][]uint8{1: {0}, 2: {1, 1}, 4: {3, 3, 5, 5}}
	for memory := range 256 {
		for _, n := range ways {
			for way := range n {
				m := use(t, uint8(memory), n, way)
				if (m^uint8(memory))&^touched[n][way] != 0 {
					t.Error(memory, n, way, m)
				}
			}
		}
	}
}

// P6.1: a way that is used twice is used as if once.
func TestUseTwice(t *testing.T) {
	for memory := range 256 {
		for _, n := range ways {
			for way := range n {
				m := use(t, uint8(memory), n, way)
				if again := use(t, m, n, way); again != m {
					t.Error(memory, n, way, m, again)
				}
			}
		}
	}
}

// P6.1: ways that there are not.
func TestUseArg(t *testing.T) {
	for memory := range 256 {
		for _, n := range noWays {
			if m, e := victim.Use(uint8(memory), n, 0); m != 0 || e != api.ErrArg {
				t.Error(memory, n, m, e)
			}
		}
	}
}

// P6.1: numbers that are no way's.
func TestUseRange(t *testing.T) {
	for memory := range 256 {
		for _, n := range ways {
			for _, way := range notOf(n) {
				if m, e := victim.Use(uint8(memory), n, way); m != 0 || e != api.ErrRange {
					t.Error(memory, n, way, m, e)
				}
			}
		}
	}
}

// P6.1, R2: where both errors would fit, it is ErrArg.
func TestFirstError(t *testing.T) {
	for _, memory := range []uint8{0, 1, 2, 3, 7, 8, 128, 255} {
		for _, n := range noWays {
			for _, way := range append(notOf(n), notOf(4)...) {
				if m, e := victim.Use(memory, n, way); m != 0 || e != api.ErrArg {
					t.Error(memory, n, way, m, e)
				}
			}
		}
	}
}

// P6.2: each memory.
func TestVictim(t *testing.T) {
	for memory := range 256 {
		for _, n := range ways {
			way, e := victim.Victim(uint8(memory), n)
			if want := next(memory, n); way != want || e != api.OK {
				t.Error(memory, n, way, e, "not", want)
			}
		}
	}
}

// P6.2: the memories of the lowest three bits, written out; the bits beyond count for nothing.
func TestVictims(t *testing.T) {
	two := [8]int{0, 1, 0, 1, 0, 1, 0, 1}
	four := [8]int{0, 2, 1, 2, 0, 3, 1, 3}
	for memory := range 256 {
		m := uint8(memory)
		if a, b, c := of(t, m, 1), of(t, m, 2), of(t, m, 4); a != 0 || b != two[memory%8] || c != four[memory%8] {
			t.Error(memory, a, b, c)
		}
	}
}

// P6.2: ways that there are not.
func TestVictimArg(t *testing.T) {
	for memory := range 256 {
		for _, n := range noWays {
			if way, e := victim.Victim(uint8(memory), n); way != 0 || e != api.ErrArg {
				t.Error(memory, n, way, e)
			}
		}
	}
}

// P6.3: what was used last is not the victim, nor is one of its half.
func TestUsedLast(t *testing.T) {
	for memory := range 256 {
		for way := range 2 {
			if next := of(t, use(t, uint8(memory), 2, way), 2); next != 1-way {
				t.Error("of 2", memory, way, next)
			}
		}
		for way := range 4 {
			if next := of(t, use(t, uint8(memory), 4, way), 4); next/2 == way/2 {
				t.Error("of 4", memory, way, next)
			}
		}
		if next := of(t, use(t, uint8(memory), 1, 0), 1); next != 0 {
			t.Error("of 1", memory, next)
		}
	}
}

// P6.3: who uses the victim again and again uses each way once in as many times as there are ways, wherever it is begun to count.
func TestAgainAndAgain(t *testing.T) {
	for memory := range 256 {
		for _, n := range ways {
			m := uint8(memory)
			var order []int
			for range 5 * n {
				order = append(order, of(t, m, n))
				m = use(t, m, n, order[len(order)-1])
			}
			for first := range 4*n + 1 {
				times := [4]int{}
				for _, way := range order[first : first+n] {
					times[way]++
				}
				for way := range n {
					if times[way] != 1 {
						t.Error(memory, n, order)
					}
				}
			}
		}
	}
}

// P6.1 to P6.3, R5: long runs of ways and victims, of all sets at once, held against the paths.
func TestRuns(t *testing.T) {
	m := uint32(6)
	for _, n := range ways {
		memory, want := uint8(0), 0
		for range 4000 {
			m = m*1664525 + 1013904223
			way := int(m>>16) % n
			if m>>24&1 == 1 {
				way = of(t, memory, n)
			}
			memory, want = use(t, memory, n, way), used(want, n, way)
			if got := of(t, memory, n); int(memory) != want || got != next(want, n) {
				t.Fatal(n, way, memory, want, got)
			}
		}
	}
}

// The chapter's table.
func TestExamples(t *testing.T) {
	if m, e := victim.Use(0, 4, 0); m != 3 || e != api.OK {
		t.Error(m, e)
	}
	if m, e := victim.Use(0, 4, 3); m != 0 || e != api.OK {
		t.Error(m, e)
	}
	for _, x := range []struct {
		memory    uint8
		ways, way int
		e         api.Errno
	}{
		{0, 4, 0, api.OK},
		{3, 4, 2, api.OK},
		{1, 2, 1, api.OK},
		{7, 1, 0, api.OK},
		{0, 3, 0, api.ErrArg},
	} {
		if way, e := victim.Victim(x.memory, x.ways); way != x.way || e != x.e {
			t.Error(x, way, e)
		}
	}
}
