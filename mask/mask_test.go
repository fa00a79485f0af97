package mask_test

import (
	"math"
	"slices"
	"testing"

	"undertow/api"
	"undertow/mask"
)

// full is the set of all numbers from 0 to 31, written out.
const full api.Mask = 0xffffffff

// strangers are numbers that are in no set: next to 0 and 31, huge ones, and such as are like one from 0 to 31 if all but some lower bits were dropped.
func strangers() []int {
	l := []int{math.MinInt, math.MinInt + 1, math.MinInt + 31, math.MaxInt, math.MaxInt - 31, math.MinInt32, math.MaxInt32, math.MaxUint32}
	for _, n := range []int{0, 1, 5, 31} {
		l = append(l, n-32, n-64, n-256, n-1<<16, n-1<<32, n+32, n+64, n+128, n+256, n+1<<16, n+1<<32, n-1<<62, n+1<<62)
	}
	return append(l, -1, -2, -31, -33, 33, 63, 65, 100)
}

// someMasks are the empty set and the full one, those of one and of two numbers, those that lack these, rows of neighbours, and some that are mixed.
func someMasks() []api.Mask {
	l := []api.Mask{0, full}
	for a := range 32 {
		for b := range a + 1 {
			m := bit(a) | bit(b)
			l = append(l, m, full^m, full>>a<<b)
		}
	}
	m := uint32(1)
	for range 500 {
		m = m*1664525 + 1013904223
		l = append(l, api.Mask(m), api.Mask(m&(m<<7)), api.Mask(m|(m>>9)))
	}
	return l
}

// bit is 2 to the power of n, by doubling.
func bit(n int) api.Mask {
	m := api.Mask(1)
	for range n {
		m += m
	}
	return m
}

// told is which numbers are in m, by halving: the tests' own reading of a mask.
func told(m api.Mask) [32]bool {
	var in [32]bool
	for n := range in {
		in[n] = m%2 == 1
		m /= 2
	}
	return in
}

// numbers is the numbers of told, rising.
func numbers(m api.Mask) []int {
	var l []int
	for n, in := range told(m) {
		if in {
			l = append(l, n)
		}
	}
	return l
}

func of(t *testing.T, l ...int) api.Mask {
	t.Helper()
	m, e := mask.Of(l...)
	if e != api.OK {
		t.Fatal("Of", l, e)
	}
	return m
}

func TestNumbersOfTheDocument(t *testing.T) {
	if api.OK != 0 || api.ErrRange != 5 {
		t.Error("errors", api.OK, api.ErrRange)
	}
}

// P2.1.
func TestOf(t *testing.T) {
	for _, c := range []struct {
		l    []int
		want api.Mask
	}{
		{nil, 0},
		{[]int{}, 0},
		{[]int{0}, 1},
		{[]int{1}, 2},
		{[]int{15}, 0x8000},
		{[]int{16}, 0x10000},
		{[]int{31}, 0x80000000},
		{[]int{0, 31}, 0x80000001},
		{[]int{31, 0}, 0x80000001},
		{[]int{5, 2, 9}, 0x224},
		{[]int{3, 3}, 8},
		{[]int{0, 3, 3}, 9},
		{[]int{31, 0, 31, 0, 31}, 0x80000001},
		{[]int{4, 4, 4, 4}, 16},
	} {
		if m, e := mask.Of(c.l...); m != c.want || e != api.OK {
			t.Error("Of", c.l, m, e, "want", c.want)
		}
	}
}

// P2.1: no number at all.
func TestOfNone(t *testing.T) {
	if m, e := mask.Of(); m != 0 || e != api.OK {
		t.Error("Of", m, e)
	}
}

// P2.1: all numbers, each once and twice, both ways round.
func TestOfFull(t *testing.T) {
	var l []int
	for n := range 32 {
		l = append(l, n)
	}
	back := slices.Clone(l)
	slices.Reverse(back)
	for _, l := range [][]int{l, back, append(l, back...)} {
		if m := of(t, l...); m != full {
			t.Error("Of", l, m)
		}
	}
}

// P2.1: a number that is not from 0 to 31, wherever it stands.
func TestOfRange(t *testing.T) {
	for _, n := range strangers() {
		for _, l := range [][]int{{n}, {n, 3}, {3, n}, {0, n, 31}, {7, 7, n}, {n, n}, {n, 32}} {
			if m, e := mask.Of(l...); m != 0 || e != api.ErrRange {
				t.Error("Of", l, m, e)
			}
		}
	}
}

// P2.1, R3: what is handed in stays as it is.
func TestOfLeavesNumbers(t *testing.T) {
	l := []int{9, 2, 2, 31, 0}
	of(t, l...)
	if !slices.Equal(l, []int{9, 2, 2, 31, 0}) {
		t.Error(l)
	}
}

// P2.2.
func TestWithWithoutHas(t *testing.T) {
	for _, m := range someMasks() {
		for n, in := range told(m) {
			with, without := m, m
			if in {
				without -= bit(n)
			} else {
				with += bit(n)
			}
			if w := mask.With(m, n); w != with {
				t.Error("With", m, n, w, "want", with)
			}
			if w := mask.Without(m, n); w != without {
				t.Error("Without", m, n, w, "want", without)
			}
			if mask.Has(m, n) != in {
				t.Error("Has", m, n, !in)
			}
		}
	}
}

// P2.2: numbers that are not from 0 to 31.
func TestWithWithoutHasRange(t *testing.T) {
	for _, m := range someMasks() {
		for _, n := range strangers() {
			if w := mask.With(m, n); w != m {
				t.Error("With", m, n, w)
			}
			if w := mask.Without(m, n); w != m {
				t.Error("Without", m, n, w)
			}
			if mask.Has(m, n) {
				t.Error("Has", m, n)
			}
		}
	}
}

// P2.2: the first numbers and the last ones, of the empty set and the full one.
func TestWithWithoutHasEdges(t *testing.T) {
	for _, c := range []struct {
		m             api.Mask
		n             int
		with, without api.Mask
		has           bool
	}{
		{0, -1, 0, 0, false},
		{0, 0, 1, 0, false},
		{0, 31, 0x80000000, 0, false},
		{0, 32, 0, 0, false},
		{full, -1, full, full, false},
		{full, 0, full, 0xfffffffe, true},
		{full, 31, full, 0x7fffffff, true},
		{full, 32, full, full, false},
		{1, 31, 0x80000001, 1, false},
		{0x80000000, 0, 0x80000001, 0x80000000, false},
	} {
		with, without, has := mask.With(c.m, c.n), mask.Without(c.m, c.n), mask.Has(c.m, c.n)
		if with != c.with || without != c.without || has != c.has {
			t.Error(c.m, c.n, with, without, has, "want", c.with, c.without, c.has)
		}
	}
}

// P2.3.
func TestCountLeastAllList(t *testing.T) {
	for _, m := range someMasks() {
		want := numbers(m)
		least := -1
		if len(want) > 0 {
			least = want[0]
		}
		if n := mask.Count(m); n != len(want) {
			t.Error("Count", m, n, "want", len(want))
		}
		if n := mask.Least(m); n != least {
			t.Error("Least", m, n, "want", least)
		}
		if l := slices.Collect(mask.All(m)); !slices.Equal(l, want) {
			t.Error("All", m, l, "want", want)
		}
		if l := mask.List(m); !slices.Equal(l, want) {
			t.Error("List", m, l, "want", want)
		}
	}
}

// P2.3: the empty set, the full one, those of the first number and of the last one.
func TestCountLeastEdges(t *testing.T) {
	for _, c := range []struct {
		m                  api.Mask
		count, least, last int
	}{{0, 0, -1, -1}, {full, 32, 0, 31}, {1, 1, 0, 0}, {0x80000000, 1, 31, 31}, {0x80000001, 2, 0, 31}} {
		last, seen := -1, 0
		for n := range mask.All(c.m) {
			last, seen = n, seen+1
		}
		if mask.Count(c.m) != c.count || mask.Least(c.m) != c.least || seen != c.count || last != c.last || len(mask.List(c.m)) != c.count {
			t.Error(c.m, mask.Count(c.m), mask.Least(c.m), seen, last, mask.List(c.m))
		}
	}
}

// P2.3: who goes over a set may leave it at any number, and is told no more then.
func TestAllLeft(t *testing.T) {
	for _, m := range someMasks() {
		want := numbers(m)
		for stop := range want {
			var got []int
			mask.All(m)(func(n int) bool {
				got = append(got, n)
				return len(got) <= stop
			})
			if !slices.Equal(got, want[:stop+1]) {
				t.Error("All", m, "left behind", want[stop], got)
			}
		}
	}
}

// P2.3: the loop's own ways of leaving.
func TestAllLeftByLoop(t *testing.T) {
	var got []int
	for n := range mask.All(0x80000116) {
		if n == 2 {
			continue
		}
		if n == 8 {
			break
		}
		got = append(got, n)
	}
	if !slices.Equal(got, []int{1, 4}) {
		t.Error(got)
	}
	first := func(m api.Mask) int {
		for n := range mask.All(m) {
			return n
		}
		return -1
	}
	if first(full) != 0 || first(0x80000000) != 31 || first(0) != -1 {
		t.Error(first(full), first(0x80000000), first(0))
	}
}

// P2.3: what All answers may be gone over again, also when it was left, and within itself.
func TestAllAgain(t *testing.T) {
	all := mask.All(0x80000009)
	for range all {
		break
	}
	var got []int
	for a := range all {
		for b := range all {
			got = append(got, 100*a+b)
		}
	}
	if want := []int{0, 3, 31, 300, 303, 331, 3100, 3103, 3131}; !slices.Equal(got, want) {
		t.Error(got, "want", want)
	}
}

// P2.3: a list is nobody else's: what is written into one is not in the next one.
func TestListIsNew(t *testing.T) {
	for _, m := range []api.Mask{full, 9, 0x80000000} {
		l := mask.List(m)
		for i := range l {
			l[i] = -7
		}
		_ = append(l[:0], -8)
		if next := mask.List(m); !slices.Equal(next, numbers(m)) {
			t.Error("List", m, next)
		}
	}
}

// P2.4: of a set's list is the set.
func TestOfList(t *testing.T) {
	for _, m := range someMasks() {
		if w := of(t, mask.List(m)...); w != m {
			t.Error("Of List", m, w)
		}
		if w := of(t, slices.Collect(mask.All(m))...); w != m {
			t.Error("Of All", m, w)
		}
	}
	// Each set of 16 cores, and the same of the upper numbers.
	for m := range api.Mask(1 << 16) {
		if w := of(t, mask.List(m)...); w != m {
			t.Error("Of List", m, w)
		}
		if w := of(t, mask.List(m<<16)...); w != m<<16 {
			t.Error("Of List", m<<16, w)
		}
	}
}

// P2.4: With and Without make the difference of just one.
func TestJustOne(t *testing.T) {
	for _, m := range someMasks() {
		for n := range 32 {
			with, without := mask.With(m, n), mask.Without(m, n)
			if !mask.Has(with, n) || mask.Has(without, n) || mask.Count(with)-mask.Count(without) != 1 {
				t.Error(m, n, with, without)
			}
			if mask.With(without, n) != with || mask.Without(with, n) != without || m != with && m != without {
				t.Error(m, n, with, without)
			}
			for other := range 32 {
				if in := mask.Has(m, other); other != n && (mask.Has(with, other) != in || mask.Has(without, other) != in) {
					t.Error(m, n, "changes", other)
				}
			}
		}
	}
}

// P2.4: a set is made number by number, and taken apart from its least one on.
func TestOneByOne(t *testing.T) {
	for _, m := range someMasks() {
		var w api.Mask
		for n := range mask.All(m) {
			w = mask.With(w, n)
		}
		if w != m {
			t.Error("With", m, w)
		}
		for left := mask.Count(m); left > 0; left-- {
			w = mask.Without(w, mask.Least(w))
			if mask.Count(w) != left-1 {
				t.Error("Without", m, w, left)
			}
		}
	}
}

// The chapter's examples.
func TestExamples(t *testing.T) {
	if m, e := mask.Of(0, 3, 3); m != 9 || e != api.OK {
		t.Error("Of(0, 3, 3)", m, e)
	}
	if m, e := mask.Of(32); m != 0 || e != api.ErrRange {
		t.Error("Of(32)", m, e)
	}
	if mask.Least(12) != 2 || mask.Count(12) != 2 || mask.Least(0) != -1 {
		t.Error("Least(12), Count(12), Least(0)", mask.Least(12), mask.Count(12), mask.Least(0))
	}
}
