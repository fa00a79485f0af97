package order_test

import (
	"math"
	"slices"
	"testing"

	"undertow/order"
)

// rising are stamps, the oldest first: next to 1, next to where halves of a number begin and end, and such as are like others if upper bits were dropped, or a bit were a sign.
var rising = []uint64{
	1, 2, 3, 5, 9, 10, 127, 128, 255, 256, 257, 258, 1<<16 - 1, 1 << 16, 1<<16 + 1,
	math.MaxInt32, 1 << 31, math.MaxUint32 - 1, math.MaxUint32, 1 << 32, 1<<32 + 1, 1<<32 + 3, 1 << 53, 1<<53 + 1,
	math.MaxInt64 - 1, math.MaxInt64, 1 << 63, 1<<63 + 1, 1<<63 + 5, math.MaxUint64 - 1, math.MaxUint64,
}

// stamps are nobody's, and those.
var stamps = append([]uint64{0}, rising...)

var yesAndNo = []bool{true, false}

// older is P14.1 by where the stamps stand in the row.
func older(a, b uint64) bool {
	i, j := slices.Index(rising, a), slices.Index(rising, b)
	return i >= 0 && i < j
}

func TestStampsRise(t *testing.T) {
	for i := range len(stamps) - 1 {
		if stamps[i] >= stamps[i+1] {
			t.Error(stamps[i], stamps[i+1])
		}
	}
}

// P14.1: each two of the stamps.
func TestOlder(t *testing.T) {
	for _, a := range stamps {
		for _, b := range stamps {
			if is := order.Older(a, b); is != older(a, b) {
				t.Error("Older", a, b, is)
			}
		}
	}
}

// P14.1: 0 is nobody's: it is not older, and nothing is older than it.
func TestOlderOfNobody(t *testing.T) {
	for _, a := range stamps {
		if order.Older(0, a) || order.Older(a, 0) || order.Older(a, a) {
			t.Error("Older", a)
		}
	}
}

// P14.1: of two stamps that are somebody's and unlike just one is the older one; who is older than an older one is older.
func TestOlderIsAnOrder(t *testing.T) {
	for _, a := range rising {
		for _, b := range rising {
			if a != b && order.Older(a, b) == order.Older(b, a) {
				t.Error("Older", a, b)
			}
			for _, c := range rising {
				if order.Older(a, b) && order.Older(b, c) && !order.Older(a, c) {
					t.Error("Older", a, b, c)
				}
			}
		}
	}
}

// P14.2: a transaction refuses, just if there is one and the block meets its marks, whoever asks, and whatever its flag is.
func TestRefuses(t *testing.T) {
	for _, own := range stamps {
		for _, stamp := range stamps {
			for _, flag := range yesAndNo {
				if is, _ := order.Asked(own, flag, true, stamp); is != (own > 0) {
					t.Error("Asked", own, flag, true, stamp, is)
				}
				if is, _ := order.Asked(own, flag, false, stamp); is {
					t.Error("Asked", own, flag, false, stamp)
				}
			}
		}
	}
}

// P14.2: a flag that is not up is put up where an older one is refused, and by nothing else.
func TestFlagIsPutUp(t *testing.T) {
	for _, own := range stamps {
		for _, stamp := range stamps {
			if _, next := order.Asked(own, false, true, stamp); next != older(stamp, own) {
				t.Error("Asked", own, false, true, stamp, next)
			}
			if _, next := order.Asked(own, false, false, stamp); next {
				t.Error("Asked", own, false, false, stamp)
			}
		}
	}
}

// P14.5: a flag that is up stays up, whoever asks, also where it does not refuse, and where there is no transaction.
func TestFlagStaysUp(t *testing.T) {
	for _, own := range stamps {
		for _, stamp := range stamps {
			for _, meets := range yesAndNo {
				if _, next := order.Asked(own, true, meets, stamp); !next {
					t.Error("Asked", own, true, meets, stamp)
				}
			}
		}
	}
}

// P14.3: who has a transaction, and its flag up, gives way to an older one alone.
func TestGives(t *testing.T) {
	for _, own := range stamps {
		for _, stamp := range stamps {
			if is := order.Gives(own, true, stamp); is != older(stamp, own) {
				t.Error("Gives", own, true, stamp, is)
			}
		}
	}
}

// P14.3: who has its flag not up, or no transaction, or is refused by nobody, or by one that is its own age, or younger, does not give way.
func TestGivesNot(t *testing.T) {
	for i, own := range stamps {
		for _, flag := range yesAndNo {
			if order.Gives(0, flag, own) || order.Gives(own, flag, 0) {
				t.Error("Gives", own, flag)
			}
			for _, younger := range stamps[i:] {
				if order.Gives(own, flag, younger) {
					t.Error("Gives", own, flag, younger)
				}
			}
		}
		for _, stamp := range stamps {
			if order.Gives(own, false, stamp) {
				t.Error("Gives", own, false, stamp)
			}
		}
	}
}

// rows are all rows of so many of the numbers from 0 on.
func rows(many int) [][]int {
	l := [][]int{{}}
	for n := range many {
		var longer [][]int
		for _, row := range l {
			for at := range n + 1 {
				longer = append(longer, slices.Insert(slices.Clone(row), at, n))
			}
		}
		l = longer
	}
	return l
}

// ring are transactions, each of which waits for the next one, and the first one of all for which the last one waits.
type ring struct {
	stamps []uint64
	flags  []bool
}

func ringOf(stamps []uint64) ring { return ring{stamps, make([]bool, len(stamps))} }

func (r ring) next(i int) int { return (i + 1) % len(r.stamps) }

// ask lets one ask the next one for what that has marked.
func (r ring) ask(t *testing.T, i int) {
	t.Helper()
	k := r.next(i)
	refuses, next := order.Asked(r.stamps[k], r.flags[k], true, r.stamps[i])
	if !refuses || r.flags[k] && !next {
		t.Error("Asked", r, i, refuses, next)
	}
	r.flags[k] = next
}

// breaks tells whether one of the ring at least gives way, and the oldest one does not.
func (r ring) breaks(t *testing.T) {
	t.Helper()
	gives, oldest := 0, slices.Min(r.stamps)
	for i, own := range r.stamps {
		if order.Gives(own, r.flags[i], r.stamps[r.next(i)]) {
			gives++
			if own == oldest {
				t.Error("the oldest one gives way", r)
			}
		}
	}
	if gives == 0 {
		t.Error("nobody gives way", r)
	}
}

// P14.4: rings of all orders, whose asks come in all orders.
func TestNoRing(t *testing.T) {
	for many := 2; many <= 5; many++ {
		for _, places := range rows(many) {
			l := make([]uint64, many)
			for i, n := range places {
				l[i] = rising[n*7]
			}
			for _, turns := range rows(many) {
				r := ringOf(l)
				for _, i := range turns {
					r.ask(t, i)
				}
				r.breaks(t)
				if t.Failed() {
					t.Fatal("ring", l, turns)
				}
			}
		}
	}
}

// mixed is a row of numbers that are as good as picked at random; the same ones each time.
func mixed(m uint32) func(below int) int {
	return func(below int) int {
		m = m*1664525 + 1013904223
		return int(m>>8) % below
	}
}

// others let somebody who is not of the ring ask, whose stamp may be any.
func (r ring) others(t *testing.T, pick func(below int) int) {
	t.Helper()
	k, meets := pick(len(r.stamps)), pick(2) == 0
	was := r.flags[k]
	refuses, next := order.Asked(r.stamps[k], was, meets, stamps[pick(len(stamps))])
	if refuses != meets || was && !next || next && !was && !refuses {
		t.Error("Asked", r, k, was, refuses, next)
	}
	r.flags[k] = next
}

// P14.4, P14.5: longer rings, whose asks come again and again, and others' between them.
func TestNoRingOfMany(t *testing.T) {
	for i := range 3000 {
		pick := mixed(uint32(i))
		l := slices.Clone(rising)
		for at := range l {
			with := at + pick(len(l)-at)
			l[at], l[with] = l[with], l[at]
		}
		r := ringOf(l[:2+pick(15)])
		for range pick(20) {
			r.others(t, pick)
		}
		for at := range r.stamps {
			r.ask(t, at)
			r.others(t, pick)
		}
		r.breaks(t)
		for range pick(20) {
			r.ask(t, pick(len(r.stamps)))
			r.others(t, pick)
			r.breaks(t)
		}
		if t.Failed() {
			t.Fatal("ring", i)
		}
	}
}

// P14.4: where the oldest one waits for one that is younger it never gives way, whatever its flag is.
func TestOldestNeverGives(t *testing.T) {
	for i, own := range rising {
		for _, younger := range rising[i+1:] {
			for _, flag := range yesAndNo {
				if order.Gives(own, flag, younger) {
					t.Error("Gives", own, flag, younger)
				}
			}
		}
	}
}

// R5: the same calls answer the same, whatever was asked ahead of them.
func TestTheSameAgain(t *testing.T) {
	type answer struct{ older, refuses, next, gives bool }
	was := map[[3]uint64]answer{}
	for range 2 {
		for _, own := range stamps {
			for _, stamp := range stamps {
				for which := range uint64(4) {
					flag, meets := which%2 == 0, which/2 == 0
					refuses, next := order.Asked(own, flag, meets, stamp)
					is := answer{order.Older(own, stamp), refuses, next, order.Gives(own, flag, stamp)}
					of := [3]uint64{own, stamp, which}
					if then, there := was[of]; there && then != is {
						t.Error(of, then, is)
					}
					was[of] = is
				}
			}
		}
	}
}

// The chapter's table.
func TestExamples(t *testing.T) {
	if a, b, c := order.Older(3, 5), order.Older(0, 5), order.Older(5, 5); !a || b || c {
		t.Error("Older", a, b, c)
	}
	asked := []struct {
		meets         bool
		stamp         uint64
		refuses, next bool
	}{
		{true, 3, true, true},
		{true, 9, true, false},
		{false, 3, false, false},
	}
	for _, x := range asked {
		if refuses, next := order.Asked(5, false, x.meets, x.stamp); refuses != x.refuses || next != x.next {
			t.Error("Asked", x, refuses, next)
		}
	}
	if a, b, c := order.Gives(5, true, 3), order.Gives(5, true, 9), order.Gives(5, false, 3); !a || b || c {
		t.Error("Gives", a, b, c)
	}
}
