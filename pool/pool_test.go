package pool_test

import (
	"math"
	"slices"
	"testing"

	"undertow/api"
	"undertow/pool"
)

// most is the greatest room, written out.
const most = 65536

// noPlaces are places of no thing in a pool that has so many: next to it, huge ones, and such as are like a place if some upper bits were dropped.
func noPlaces(things int) []int {
	l := []int{-1, -2, -things, -things - 1, things, things + 1, 2*things + 2, math.MinInt, math.MinInt + 1, math.MaxInt, math.MaxInt - 1, math.MinInt32, math.MaxInt32, math.MaxUint32}
	return append(l, -256, -most, -1<<32, -1<<62, 1<<32, 1<<32+1, 1<<62, most, most+1)
}

func madeOf[T any](t *testing.T, room int, l ...T) *pool.Pool[T] {
	t.Helper()
	p, e := pool.New[T](room)
	if e != api.OK || p == nil {
		t.Fatal("New", room, p, e)
	}
	for i, x := range l {
		if e := p.Put(x); e != api.OK {
			t.Fatal("Put", i, e)
		}
	}
	return p
}

// holds tells what each call that changes nothing says of p, where it is to have these things, and room for so many more.
func holds[T comparable](t *testing.T, p *pool.Pool[T], room int, want ...T) {
	t.Helper()
	if p.Len() != len(want) || p.Room() != room {
		t.Error("Len, Room", p.Len(), p.Room(), "want", len(want), room)
	}
	next := 0
	for i, x := range p.All() {
		if i != next || i >= len(want) || x != want[i] {
			t.Error("All", i, x, "want", want)
			return
		}
		next++
	}
	if next != len(want) {
		t.Error("All ends at", next, "want", want)
	}
	for i, y := range want {
		if x, e := p.At(i); x != y || e != api.OK {
			t.Error("At", i, x, e, "want", y)
		}
		if n := p.First(func(x T) bool { return x == y }); n != slices.Index(want, y) {
			t.Error("First", y, n, "want", slices.Index(want, y))
		}
	}
	var none T
	for _, i := range []int{-1, len(want)} {
		if x, e := p.At(i); x != none || e != api.ErrRange {
			t.Error("At", i, x, e)
		}
	}
}

func take[T comparable](t *testing.T, p *pool.Pool[T], i int, want T) {
	t.Helper()
	if x, e := p.Take(i); x != want || e != api.OK {
		t.Error("Take", i, x, e, "want", want)
	}
}

// mixed is a row of numbers that are as good as picked at random; the same ones each time.
func mixed() func(below int) int {
	m := uint32(1)
	return func(below int) int {
		m = m*1664525 + 1013904223
		return int(m>>8) % below
	}
}

func TestNumbersOfTheDocument(t *testing.T) {
	if api.OK != 0 || api.ErrNil != 1 || api.ErrArg != 2 || api.ErrRange != 5 || api.ErrFull != 7 {
		t.Error("errors", api.OK, api.ErrNil, api.ErrArg, api.ErrRange, api.ErrFull)
	}
}

// P3.1: rooms that there are, from the least one to the greatest.
func TestNew(t *testing.T) {
	for _, room := range []int{1, 2, 3, 4, 5, 100, 255, 256, 257, 1024, most - 1, most} {
		p, e := pool.New[string](room)
		if p == nil || e != api.OK {
			t.Error("New", room, p, e)
			continue
		}
		holds(t, p, room)
	}
}

// P3.1: rooms that there are not.
func TestNewArg(t *testing.T) {
	for _, room := range []int{0, -1, -2, -most, most + 1, most + 2, 2 * most, math.MinInt, math.MaxInt, math.MinInt + 1, math.MinInt32, math.MaxInt32, math.MaxUint32, 1 << 32, 1<<32 + 1, 1 << 62, 5 - 1<<62, 1 - 1<<32} {
		if p, e := pool.New[int](room); p != nil || e != api.ErrArg {
			t.Error("New", room, p, e)
		}
	}
}

// P3.1: pools have nothing to do with one another.
func TestNewIsAnother(t *testing.T) {
	p, q := madeOf[int](t, 2), madeOf[int](t, 2)
	p.Put(7)
	holds(t, p, 1, 7)
	holds(t, q, 2)
}

// P3.1.
func TestPut(t *testing.T) {
	p := madeOf[string](t, 4)
	var want []string
	for i, x := range []string{"b", "a", "", "b"} {
		if e := p.Put(x); e != api.OK {
			t.Error("Put", x, e)
		}
		want = append(want, x)
		holds(t, p, 3-i, want...)
	}
}

// P3.1: a pool that is full takes nothing, and is as it was; it takes one again for each that goes.
func TestPutFull(t *testing.T) {
	for room := 1; room <= 40; room++ {
		p := madeOf[int](t, room)
		var want []int
		for i := range room {
			if e := p.Put(i); e != api.OK {
				t.Error("Put", i, "room", room, e)
			}
			want = append(want, i)
		}
		for range 3 {
			if e := p.Put(-5); e != api.ErrFull {
				t.Error("Put", "room", room, e)
			}
			holds(t, p, 0, want...)
		}
		for i := range room {
			take(t, p, i, want[i])
			if e := p.Put(100 + i); e != api.OK {
				t.Error("Put", "room", room, e)
			}
			want = append(slices.Delete(want, i, i+1), 100+i)
			if e := p.Put(-5); e != api.ErrFull {
				t.Error("Put", "room", room, e)
			}
			holds(t, p, 0, want...)
		}
	}
}

// P3.1: the greatest room is all of it there.
func TestPutGreatest(t *testing.T) {
	p := madeOf[int](t, most)
	for i := range most {
		if e := p.Put(i); e != api.OK {
			t.Fatal("Put", i, e)
		}
	}
	if e := p.Put(most); e != api.ErrFull || p.Len() != most || p.Room() != 0 {
		t.Error("Put", e, p.Len(), p.Room())
	}
	for _, i := range []int{0, 1, most / 2, most - 2, most - 1} {
		if x, e := p.At(i); x != i || e != api.OK {
			t.Error("At", i, x, e)
		}
	}
	for _, i := range []int{-1, most, most + 1} {
		if x, e := p.At(i); x != 0 || e != api.ErrRange {
			t.Error("At", i, x, e)
		}
	}
	take(t, p, 0, 0)
	take(t, p, most-2, most-1)
	take(t, p, 9, 10)
	if p.Len() != most-3 || p.Room() != 3 {
		t.Error(p.Len(), p.Room())
	}
	for x := 1; x < most-1; x++ {
		if x != 10 {
			take(t, p, 0, x)
		}
	}
	holds(t, p, most)
}

// P3.2: the first one, the last one, and those between.
func TestTakeAt(t *testing.T) {
	for n := 1; n <= 12; n++ {
		for i := range n {
			p := madeOf[int](t, 12)
			var want []int
			for x := range n {
				p.Put(10 * x)
				want = append(want, 10*x)
			}
			if x, e := p.At(i); x != 10*i || e != api.OK {
				t.Error("At", i, x, e)
			}
			holds(t, p, 12-n, want...)
			take(t, p, i, 10*i)
			want = slices.Delete(want, i, i+1)
			holds(t, p, 13-n, want...)
			p.Put(-1)
			holds(t, p, 12-n, append(want, -1)...)
		}
	}
}

// P3.2: places of no thing; the pool is as it was.
func TestTakeAtRange(t *testing.T) {
	for n := range 6 {
		p := madeOf[string](t, 5)
		var want []string
		for i := range n {
			want = append(want, string(rune('a'+i)))
			p.Put(want[i])
		}
		for _, i := range noPlaces(n) {
			if i >= 0 && i < n {
				continue
			}
			if x, e := p.At(i); x != "" || e != api.ErrRange {
				t.Error("At", i, x, e)
			}
			if x, e := p.Take(i); x != "" || e != api.ErrRange {
				t.Error("Take", i, x, e)
			}
		}
		holds(t, p, 5-n, want...)
	}
}

// P3.2: a place that had a thing has none any more.
func TestTakeUntilNone(t *testing.T) {
	p := madeOf(t, 3, 5, 6, 7)
	take(t, p, 2, 7)
	if x, e := p.At(2); x != 0 || e != api.ErrRange {
		t.Error("At", 2, x, e)
	}
	take(t, p, 0, 5)
	take(t, p, 0, 6)
	for range 2 {
		if x, e := p.Take(0); x != 0 || e != api.ErrRange {
			t.Error("Take", x, e)
		}
		holds(t, p, 3)
	}
	p.Put(8)
	holds(t, p, 2, 8)
}

// P3.3.
func TestLenRoom(t *testing.T) {
	p := madeOf[int](t, 3)
	for i, c := range []struct{ len, room int }{{0, 3}, {1, 2}, {2, 1}, {3, 0}, {3, 0}} {
		if p.Len() != c.len || p.Room() != c.room {
			t.Error("Len, Room", p.Len(), p.Room(), "want", c)
		}
		p.Put(i)
	}
	for n := 2; n >= 0; n-- {
		p.Take(n / 2)
		if p.Len() != n || p.Room() != 3-n {
			t.Error("Len, Room", p.Len(), p.Room(), "want", n, 3-n)
		}
	}
}

// P3.3: who goes over a pool may leave it at any thing, and is told no more then.
func TestAllLeft(t *testing.T) {
	p := madeOf(t, 9, "a", "b", "c", "d", "e")
	for stop := range 5 {
		var places []int
		var things []string
		p.All()(func(i int, x string) bool {
			places, things = append(places, i), append(things, x)
			return i < stop
		})
		if !slices.Equal(places, []int{0, 1, 2, 3, 4}[:stop+1]) || !slices.Equal(things, []string{"a", "b", "c", "d", "e"}[:stop+1]) {
			t.Error("All left at", stop, places, things)
		}
		holds(t, p, 4, "a", "b", "c", "d", "e")
	}
}

// P3.3: the loop's own ways of leaving.
func TestAllLeftByLoop(t *testing.T) {
	p := madeOf(t, 4, 6, 7, 8, 9)
	var got []int
	for i, x := range p.All() {
		if i == 1 {
			continue
		}
		if x == 9 {
			break
		}
		got = append(got, x)
	}
	if !slices.Equal(got, []int{6, 8}) {
		t.Error(got)
	}
	first := func() (int, int) {
		for i, x := range p.All() {
			return i, x
		}
		return -1, -1
	}
	if i, x := first(); i != 0 || x != 6 {
		t.Error(i, x)
	}
	for range p.Len() {
		p.Take(0)
	}
	if i, x := first(); i != -1 || x != -1 {
		t.Error(i, x)
	}
}

// P3.3: a pool may be gone over again, also when it was left, within itself, and when it was changed.
func TestAllAgain(t *testing.T) {
	p := madeOf(t, 3, 1, 2, 3)
	all := p.All()
	for range all {
		break
	}
	var got []int
	for i, x := range all {
		for j, y := range all {
			got = append(got, 1000*i+100*x+10*j+y)
		}
	}
	if want := []int{101, 112, 123, 1201, 1212, 1223, 2301, 2312, 2323}; !slices.Equal(got, want) {
		t.Error(got, "want", want)
	}
	p.Take(1)
	p.Put(4)
	got = nil
	for i, x := range all {
		got = append(got, 10*i+x)
	}
	if want := []int{1, 13, 24}; !slices.Equal(got, want) {
		t.Error(got, "want", want)
	}
}

// P3.3, R1: a pool that changes while it is gone over: each thing that was there is told once, and it ends.
func TestAllWhileChanged(t *testing.T) {
	for i := range 4 {
		p := madeOf(t, 5, 1, 2, 3, 4)
		var got []int
		for _, x := range p.All() {
			got = append(got, x)
			p.Take(i)
			p.Put(10 * x)
			p.Put(-x)
		}
		if !slices.Equal(got, []int{1, 2, 3, 4}) {
			t.Error("All, taking", i, got)
		}
	}
	p := madeOf(t, 5, 1, 2, 3, 4)
	for range p.All() {
		p.Take(p.Len() - 1)
		p.Take(0)
	}
	holds(t, p, 5)
}

// P3.4: of several things that it is the first one, asked in order, and no one asked behind it.
func TestFirst(t *testing.T) {
	p := madeOf(t, 6, 3, 1, 4, 1, 5)
	for _, c := range []struct {
		is    func(int) bool
		want  int
		asked []int
	}{
		{func(x int) bool { return x == 3 }, 0, []int{3}},
		{func(x int) bool { return x == 1 }, 1, []int{3, 1}},
		{func(x int) bool { return x > 3 }, 2, []int{3, 1, 4}},
		{func(x int) bool { return x == 5 }, 4, []int{3, 1, 4, 1, 5}},
		{func(x int) bool { return x == 0 }, -1, []int{3, 1, 4, 1, 5}},
		{func(x int) bool { return true }, 0, []int{3}},
		{func(x int) bool { return false }, -1, []int{3, 1, 4, 1, 5}},
	} {
		var asked []int
		n := p.First(func(x int) bool {
			asked = append(asked, x)
			return c.is(x)
		})
		if n != c.want || !slices.Equal(asked, c.asked) {
			t.Error("First", n, asked, "want", c.want, c.asked)
		}
		holds(t, p, 1, 3, 1, 4, 1, 5)
	}
}

// P3.4: nothing to be found, and nothing to find it by.
func TestFirstNone(t *testing.T) {
	yes := func(int) bool { return true }
	p := madeOf[int](t, 2)
	if n := p.First(yes); n != -1 {
		t.Error("First", n)
	}
	if n := p.First(nil); n != -1 {
		t.Error("First without a function", n)
	}
	p.Put(0)
	if n := p.First(nil); n != -1 {
		t.Error("First without a function", n)
	}
	if n := p.First(yes); n != 0 {
		t.Error("First", n)
	}
	p.Take(0)
	if n := p.First(yes); n != -1 {
		t.Error("First", n)
	}
}

// P3.4: a copy of a pool has its things and its room, full or without things as well.
func TestCopy(t *testing.T) {
	for n := range 5 {
		p := madeOf(t, 4, []int{9, 8, 7, 6}[:n]...)
		q := p.Copy()
		if q == nil || q == p {
			t.Fatal("Copy", q)
		}
		holds(t, q, 4-n, []int{9, 8, 7, 6}[:n]...)
		holds(t, p, 4-n, []int{9, 8, 7, 6}[:n]...)
		if e := q.Put(5); (e == api.ErrFull) != (n == 4) {
			t.Error("Put", n, e)
		}
	}
}

// P3.4: a copy and what it was made of go on apart, whichever is changed, and however.
func TestCopyGoesOnApart(t *testing.T) {
	for change := range 6 {
		p := madeOf(t, 4, 1, 2, 3)
		q := p.Copy()
		one, other := p, q
		if change%2 == 1 {
			one, other = q, p
		}
		switch change / 2 {
		case 0:
			one.Put(4)
			holds(t, one, 0, 1, 2, 3, 4)
			holds(t, other, 1, 1, 2, 3)
			other.Put(5)
			holds(t, other, 0, 1, 2, 3, 5)
			holds(t, one, 0, 1, 2, 3, 4)
		case 1:
			take(t, one, 0, 1)
			one.Put(6)
			holds(t, one, 1, 2, 3, 6)
			holds(t, other, 1, 1, 2, 3)
			other.Put(7)
			holds(t, other, 0, 1, 2, 3, 7)
			holds(t, one, 1, 2, 3, 6)
		default:
			take(t, one, 1, 2)
			take(t, one, 1, 3)
			one.Put(8)
			holds(t, one, 2, 1, 8)
			holds(t, other, 1, 1, 2, 3)
			take(t, other, 0, 1)
			holds(t, other, 2, 2, 3)
			holds(t, one, 2, 1, 8)
		}
	}
}

// P3.4: copies of copies.
func TestCopyOfCopy(t *testing.T) {
	p := madeOf(t, 3, "x")
	q := p.Copy()
	q.Put("y")
	r := q.Copy()
	r.Put("z")
	q.Take(0)
	holds(t, p, 2, "x")
	holds(t, q, 2, "y")
	holds(t, r, 0, "x", "y", "z")
}

// R4: no pool.
func TestNil(t *testing.T) {
	var p *pool.Pool[string]
	if e := p.Put("a"); e != api.ErrNil {
		t.Error("Put", e)
	}
	for _, i := range append(noPlaces(0), 0) {
		if x, e := p.Take(i); x != "" || e != api.ErrNil {
			t.Error("Take", i, x, e)
		}
		if x, e := p.At(i); x != "" || e != api.ErrNil {
			t.Error("At", i, x, e)
		}
	}
	if p.Len() != 0 || p.Room() != 0 {
		t.Error("Len, Room", p.Len(), p.Room())
	}
	for i, x := range p.All() {
		t.Error("All", i, x)
	}
	if n := p.First(func(string) bool { return true }); n != -1 {
		t.Error("First", n)
	}
	if n := p.First(nil); n != -1 {
		t.Error("First without a function", n)
	}
	if q := p.Copy(); q != nil {
		t.Error("Copy", q)
	}
}

// Things of each kind are kept as they are: nothing among them, such as can't be held against each other, and such as have no size.
func TestThings(t *testing.T) {
	arrays := madeOf(t, 2, [2]int{1, 2}, [2]int{})
	holds(t, arrays, 0, [2]int{1, 2}, [2]int{})

	n := 3
	pointers := madeOf(t, 4, nil, &n, nil)
	holds(t, pointers, 1, nil, &n, nil)
	take(t, pointers, 1, &n)

	errnos := madeOf[any](t, 3, nil, api.OK, "a")
	holds[any](t, errnos, 0, nil, api.OK, "a")

	empties := madeOf(t, 3, struct{}{}, struct{}{})
	holds(t, empties, 1, struct{}{}, struct{}{})
	take(t, empties, 1, struct{}{})
	holds(t, empties, 2, struct{}{})

	lists := madeOf(t, 3, []int{1}, nil, []int{2, 3})
	if l, e := lists.Take(0); !slices.Equal(l, []int{1}) || e != api.OK {
		t.Error("Take", l, e)
	}
	if l, e := lists.At(2); l != nil || e != api.ErrRange {
		t.Error("At", l, e)
	}
	if n := lists.First(func(l []int) bool { return len(l) == 2 }); n != 1 {
		t.Error("First", n)
	}
	if l, e := lists.Copy().At(0); l != nil || e != api.OK {
		t.Error("At", l, e)
	}

	calls := madeOf(t, 1, func() int { return 8 })
	if f, e := calls.Take(0); f == nil || f() != 8 || e != api.OK {
		t.Error("Take", e)
	}
}

// P3.5: whatever is put and taken, and copied between: all pools have what a plain list has that is changed as they are.
func TestWhatIsPutIsTaken(t *testing.T) {
	pick := mixed()
	for room := 1; room <= 24; room++ {
		pools := []*pool.Pool[int]{madeOf[int](t, room)}
		lists := [][]int{nil}
		for x := range 600 {
			k := pick(len(pools))
			p, l := pools[k], lists[k]
			switch what := pick(9); {
			case what < 4:
				e := p.Put(x)
				if (e == api.OK) != (len(l) < room) || e != api.OK && e != api.ErrFull {
					t.Fatal("Put", e, len(l), room)
				}
				if e == api.OK {
					l = append(l, x)
				}
			case what < 8 && len(l) > 0:
				i := []int{0, len(l) - 1, pick(len(l)), pick(len(l))}[what-4]
				take(t, p, i, l[i])
				l = slices.Delete(l, i, i+1)
			case len(pools) < 5:
				pools, lists = append(pools, p.Copy()), append(lists, slices.Clone(l))
			}
			lists[k] = l
			for k := range pools {
				holds(t, pools[k], room-len(lists[k]), lists[k]...)
			}
			if t.Failed() {
				t.Fatal("room", room, "step", x)
			}
		}
	}
}

// P3.5: who takes the first one only takes in the order in which things were put, each once.
func TestFirstInFirstOut(t *testing.T) {
	pick := mixed()
	for _, room := range []int{1, 2, 3, 7, 100, 1024} {
		p := madeOf[int](t, room)
		put, taken := 0, 0
		for range 20 * room {
			for range pick(room + 1) {
				if p.Put(put) == api.OK {
					put++
				}
			}
			for range pick(room + 1) {
				if x, e := p.Take(0); e == api.OK {
					if x != taken {
						t.Fatal("Take", x, "want", taken)
					}
					taken++
				}
			}
			if p.Len() != put-taken || p.Room() != room-put+taken {
				t.Fatal(p.Len(), p.Room(), put, taken)
			}
		}
		if taken < 5*room {
			t.Error("too few were taken", room, taken)
		}
	}
}

// The chapter's examples.
func TestExamples(t *testing.T) {
	p := madeOf[string](t, 2)
	if a, b, c := p.Put("a"), p.Put("b"), p.Put("c"); a != api.OK || b != api.OK || c != api.ErrFull {
		t.Error("Put", a, b, c)
	}
	if x, e := p.Take(0); x != "a" || e != api.OK {
		t.Error("Take(0)", x, e)
	}
	if x, e := p.At(0); x != "b" || e != api.OK {
		t.Error("At(0)", x, e)
	}
	if x, e := p.Take(1); x != "" || e != api.ErrRange {
		t.Error("Take(1)", x, e)
	}
}
