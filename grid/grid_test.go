package grid_test

import (
	"math"
	"slices"
	"testing"

	"undertow/api"
	"undertow/grid"
)

// far is the document's Farthest, written out: the tests hold the numbers, too.
const far = 1048576

// notPlaces are complex numbers that are no places.
func notPlaces() []complex128 {
	inf, nan := math.Inf(1), math.NaN()
	bad := []float64{0.5, -0.5, 1e-300, math.SmallestNonzeroFloat64, 3.0000000001, far - 0.25, far + 0.25, far + 1, -far - 1, 1 << 53, 1e300, math.MaxFloat64, inf, -inf, nan}
	var l []complex128
	for _, x := range bad {
		l = append(l, complex(x, 0), complex(0, x), complex(x, x), complex(-7, x), complex(x, far))
	}
	return append(l, complex(nan, inf), complex(inf, nan), complex(-inf, inf))
}

// somePlaces are the nodes' places, and some that lie further out, up to the corners.
func somePlaces(t *testing.T) []complex128 {
	t.Helper()
	var l []complex128
	for n := -1; n < 16; n++ {
		z, e := grid.Place(n)
		if e != api.OK {
			t.Fatal("Place", n, e)
		}
		l = append(l, z)
	}
	for _, x := range []float64{-far, -far + 1, -1025, -3, 0, 2, 1024, far - 1, far} {
		for _, y := range []float64{-far, -1024, -1, 0, 5, far - 1, far} {
			l = append(l, complex(x, y))
		}
	}
	return l
}

func hops(t *testing.T, a, b complex128) int {
	t.Helper()
	h, e := grid.Hops(a, b)
	if e != api.OK {
		t.Fatal("Hops", a, b, e)
	}
	return h
}

func turn(t *testing.T, z complex128, quarters int) complex128 {
	t.Helper()
	w, e := grid.Turn(z, quarters)
	if e != api.OK {
		t.Fatal("Turn", z, quarters, e)
	}
	return w
}

// signless tells whether no part of z is a 0 with a sign: 0 has one way to be told.
func signless(z complex128) bool {
	signed := func(x float64) bool { return x == 0 && math.Signbit(x) }
	return !signed(real(z)) && !signed(imag(z))
}

func TestNumbersOfTheDocument(t *testing.T) {
	if api.MaxCores != 16 || api.Wide != 4 || api.Farthest != far || api.Home != -1 {
		t.Error("limits", api.MaxCores, api.Wide, api.Farthest, api.Home)
	}
	if api.OK != 0 || api.ErrArg != 2 || api.ErrRange != 5 {
		t.Error("errors", api.OK, api.ErrArg, api.ErrRange)
	}
}

// P1.1.
func TestPlace(t *testing.T) {
	want := []complex128{
		-1,
		0, 1, 2, 3,
		1i, 1 + 1i, 2 + 1i, 3 + 1i,
		2i, 1 + 2i, 2 + 2i, 3 + 2i,
		3i, 1 + 3i, 2 + 3i, 3 + 3i,
	}
	for i, w := range want {
		if z, e := grid.Place(i - 1); z != w || e != api.OK || !signless(z) {
			t.Error("Place", i-1, z, e, "want", w)
		}
	}
}

// P1.1: numbers of no node.
func TestPlaceRange(t *testing.T) {
	for _, n := range []int{-2, -3, -4, -5, 16, 17, 20, 256, math.MinInt32, math.MaxInt32, math.MinInt, math.MaxInt} {
		if z, e := grid.Place(n); z != 0 || e != api.ErrRange {
			t.Error("Place", n, z, e)
		}
	}
}

// P1.2.
func TestTurn(t *testing.T) {
	z := complex(2, 1)
	for _, c := range []struct {
		quarters int
		want     complex128
	}{
		{0, 2 + 1i}, {1, -1 + 2i}, {2, -2 - 1i}, {3, 1 - 2i}, {4, 2 + 1i}, {5, -1 + 2i}, {1002, -2 - 1i},
		{-1, 1 - 2i}, {-2, -2 - 1i}, {-3, -1 + 2i}, {-4, 2 + 1i}, {-5, 1 - 2i}, {-1001, 1 - 2i},
		{math.MaxInt, 1 - 2i}, {math.MaxInt - 1, -2 - 1i}, {math.MaxInt - 3, 2 + 1i},
		{math.MinInt, 2 + 1i}, {math.MinInt + 1, -1 + 2i}, {math.MinInt + 3, 1 - 2i},
	} {
		if w := turn(t, z, c.quarters); w != c.want {
			t.Error("Turn", z, c.quarters, w, "want", c.want)
		}
	}
}

// P1.2: the outermost places are places, and stay some.
func TestTurnCorners(t *testing.T) {
	for _, z := range []complex128{far, -far, far * 1i, -far * 1i, far + far*1i, far - far*1i, -far + far*1i, -far - far*1i, far - 1i, 0} {
		x, y := real(z), imag(z)
		for q, want := range []complex128{z, complex(-y, x), -z, complex(y, -x)} {
			if w := turn(t, z, q); w != want {
				t.Error("Turn", z, q, w, "want", want)
			}
		}
	}
}

// P1.2: what is no place is refused, however it would be turned.
func TestTurnArg(t *testing.T) {
	for _, z := range notPlaces() {
		for _, q := range []int{0, 1, 2, 3, -1, 4, math.MinInt, math.MaxInt} {
			if w, e := grid.Turn(z, q); w != 0 || e != api.ErrArg {
				t.Error("Turn", z, q, w, e)
			}
		}
	}
}

// P1.3: Hops.
func TestHops(t *testing.T) {
	for _, c := range []struct {
		a, b complex128
		want int
	}{
		{-1, 2 + 1i, 4}, {0, 0, 0}, {0, 1, 1}, {0, 1i, 1}, {0, -1, 1}, {0, -1i, 1}, {3, 3i, 6}, {-2 + 5i, 1 - 1i, 9},
		{-far, far, 2 * far}, {-far - far*1i, far + far*1i, 4 * far}, {far - far*1i, -far + far*1i, 4 * far}, {far, far - 1i, 1},
		{0, 4096, 4096}, {0, 4097, 4097},
	} {
		if h := hops(t, c.a, c.b); h != c.want {
			t.Error("Hops", c.a, c.b, h, "want", c.want)
		}
	}
}

// P1.3: Way; the real part goes ahead of the imaginary one.
func TestWay(t *testing.T) {
	for _, c := range []struct {
		a, b complex128
		want []complex128
	}{
		{1, 2 + 1i, []complex128{2, 2 + 1i}},
		{2 + 1i, 1, []complex128{1 + 1i, 1}},
		{0, 0, nil},
		{-3 + 2i, -3 + 2i, nil},
		{-1, 2, []complex128{0, 1, 2}},
		{2, -1, []complex128{1, 0, -1}},
		{1i, -2i, []complex128{0, -1i, -2i}},
		{-1 - 1i, 1 + 1i, []complex128{-1i, 1 - 1i, 1, 1 + 1i}},
		{1 + 1i, -1 - 1i, []complex128{1i, -1 + 1i, -1, -1 - 1i}},
		{far - 1 - far*1i, far - (far-1)*1i, []complex128{far - far*1i, far - (far-1)*1i}},
	} {
		if w, e := grid.Way(c.a, c.b); e != api.OK || !slices.Equal(w, c.want) {
			t.Error("Way", c.a, c.b, w, e, "want", c.want)
		}
	}
}

// P1.3: ways of 4096 hops are told, of 4097 not; hops are told of both.
func TestWayLongest(t *testing.T) {
	for _, c := range []struct {
		a, b complex128
		hops int
	}{
		{0, 4095, 4095}, {0, 4096, 4096}, {0, -4096, 4096}, {1i, 4097i, 4096}, {-1024 - 1024i, 1024 + 1024i, 4096}, {far, far - 4096, 4096},
		{0, 4097, 4097}, {0, -4097i, 4097}, {-1024 - 1024i, 1024 + 1025i, 4097}, {2048, -2048 + 1i, 4097},
		{-far - far*1i, far + far*1i, 4 * far},
	} {
		if h := hops(t, c.a, c.b); h != c.hops {
			t.Error("Hops", c.a, c.b, h)
		}
		w, e := grid.Way(c.a, c.b)
		if c.hops <= 4096 && (e != api.OK || len(w) != c.hops || w[c.hops-1] != c.b) {
			t.Error("Way", c.a, c.b, len(w), e)
		}
		if c.hops > 4096 && (e != api.ErrRange || len(w) != 0) {
			t.Error("Way", c.a, c.b, len(w), e)
		}
	}
}

// P1.3: both must be places; that goes ahead of how far they are.
func TestHopsAndWayArg(t *testing.T) {
	for _, bad := range notPlaces() {
		for _, other := range []complex128{0, -1, 2 + 1i, -far - far*1i, bad} {
			for _, p := range [][2]complex128{{bad, other}, {other, bad}} {
				if h, e := grid.Hops(p[0], p[1]); h != 0 || e != api.ErrArg {
					t.Error("Hops", p, h, e)
				}
				if w, e := grid.Way(p[0], p[1]); len(w) != 0 || e != api.ErrArg {
					t.Error("Way", p, w, e)
				}
			}
		}
	}
}

// P1.4: no two nodes have one place.
func TestNodesApart(t *testing.T) {
	for n := -1; n < 16; n++ {
		for m := -1; m < 16; m++ {
			a, _ := grid.Place(n)
			b, _ := grid.Place(m)
			if (a == b) != (n == m) || (hops(t, a, b) == 0) != (n == m) {
				t.Error(n, m, a, b)
			}
		}
	}
}

// P1.4: the same back, 0 just to itself, none fewer over a third place.
func TestHopsFollow(t *testing.T) {
	l := somePlaces(t)
	for _, a := range l {
		for _, b := range l {
			h := hops(t, a, b)
			if h != hops(t, b, a) || (h == 0) != (a == b) || h < 0 {
				t.Error(a, b, h)
			}
			for _, c := range l {
				if over := hops(t, a, c) + hops(t, c, b); over < h {
					t.Error(a, b, h, "over", c, over)
				}
			}
		}
	}
}

// P1.4: as many places as hops, each one hop from the one ahead, up to the other place.
func TestWayFollows(t *testing.T) {
	l := somePlaces(t)
	for _, a := range l {
		for _, b := range l {
			h := hops(t, a, b)
			if h > 4096 {
				continue
			}
			w, e := grid.Way(a, b)
			if e != api.OK || len(w) != h {
				t.Fatal("Way", a, b, len(w), h, e)
			}
			last := a
			for i, z := range w {
				if hops(t, last, z) != 1 || hops(t, z, b) != h-i-1 {
					t.Fatal("Way", a, b, "at", i, last, z)
				}
				if real(last) != real(b) && imag(z) != imag(a) {
					t.Fatal("Way", a, b, "the imaginary part went ahead, at", i)
				}
				last = z
			}
			if last != b {
				t.Fatal("Way", a, b, "ends at", last)
			}
		}
	}
}

// P1.5: four quarters are nothing, and turning adds up.
func TestFourQuarters(t *testing.T) {
	for _, z := range somePlaces(t) {
		w := z
		for q := range 9 {
			if w != turn(t, z, q) || turn(t, w, -q) != z {
				t.Error(z, q, w)
			}
			if turn(t, w, 4) != w || turn(t, w, -4) != w || turn(t, w, 0) != w {
				t.Error(z, q, "four quarters are something")
			}
			w = turn(t, w, 1)
		}
	}
}

// P1.5: turned alike, two places are as far from each other as they were.
func TestTurnedAlike(t *testing.T) {
	l := somePlaces(t)
	for _, a := range l {
		for _, b := range l {
			h := hops(t, a, b)
			for q := -4; q <= 4; q++ {
				if g := hops(t, turn(t, a, q), turn(t, b, q)); g != h {
					t.Error(a, b, q, g, h)
				}
			}
		}
	}
}

// R5: a part that is 0 is the same with a sign and without: the answers, too.
func TestSignOfZero(t *testing.T) {
	minus := math.Copysign(0, -1)
	for _, z := range []complex128{complex(minus, 0), complex(0, minus), complex(minus, minus), complex(3, minus), complex(minus, -3), 5, -5, 5i, -5i} {
		for q := -4; q <= 4; q++ {
			if w := turn(t, z, q); !signless(w) {
				t.Error("Turn", z, q, w)
			}
		}
		w, e := grid.Way(z, complex(minus, minus))
		if e != api.OK || len(w) != hops(t, z, 0) || !slices.Equal(w, wayTo(t, z, 0)) {
			t.Error("Way", z, w, e)
		}
		for _, x := range append(w, wayTo(t, z, 2-2i)...) {
			if !signless(x) {
				t.Error("Way", z, x)
			}
		}
	}
}

// R3 and R5: a way is new each time.
func TestWayIsNew(t *testing.T) {
	first := wayTo(t, -1, 3+3i)
	kept := slices.Clone(first)
	for i := range first {
		first[i] = 77
	}
	if again := wayTo(t, -1, 3+3i); !slices.Equal(again, kept) {
		t.Error(again, kept)
	}
}

func wayTo(t *testing.T, a, b complex128) []complex128 {
	t.Helper()
	w, e := grid.Way(a, b)
	if e != api.OK {
		t.Fatal("Way", a, b, e)
	}
	return w
}

// The chapter's table of examples.
func TestExamples(t *testing.T) {
	if z, e := grid.Place(-1); z != -1 || e != api.OK {
		t.Error(z, e)
	}
	if z, e := grid.Place(6); z != 2+1i || e != api.OK {
		t.Error(z, e)
	}
	if z, e := grid.Place(16); z != 0 || e != api.ErrRange {
		t.Error(z, e)
	}
	if z, e := grid.Turn(2+1i, 1); z != -1+2i || e != api.OK {
		t.Error(z, e)
	}
	if z, e := grid.Turn(2+1i, -1); z != 1-2i || e != api.OK {
		t.Error(z, e)
	}
	if z, e := grid.Turn(0.5, 0); z != 0 || e != api.ErrArg {
		t.Error(z, e)
	}
	if h, e := grid.Hops(-1, 2+1i); h != 4 || e != api.OK {
		t.Error(h, e)
	}
	if w, e := grid.Way(1, 2+1i); e != api.OK || !slices.Equal(w, []complex128{2, 2 + 1i}) {
		t.Error(w, e)
	}
}
