// Package grid is layer 1: where the nodes of a chip lie, and how far it is from one to another.
package grid

import (
	"math"

	"undertow/api"
)

// longest is how many hops a way may have.
const longest = 4096

// Place is where a node lies: the core with that number, or the home (P1.1).
func Place(node int) (complex128, api.Errno) {
	if node < api.Home || node >= api.MaxCores {
		return 0, api.ErrRange
	}
	if node == api.Home {
		return complex(-1, 0), api.OK
	}
	return complex(float64(node%api.Wide), float64(node/api.Wide)), api.OK
}

// Turn is z, turned by so many quarters; below 0 the other way round (P1.2).
func Turn(z complex128, quarters int) (complex128, api.Errno) {
	if !isPlace(z) {
		return 0, api.ErrArg
	}
	// The two lowest bits are the rest by 4 of numbers below 0 as well.
	for range quarters & 3 {
		z *= 1i
	}
	return plain(z), api.OK
}

// Hops is how many hops it is from a to b (P1.3).
func Hops(a, b complex128) (int, api.Errno) {
	if !isPlace(a) || !isPlace(b) {
		return 0, api.ErrArg
	}
	d := b - a
	return int(math.Abs(real(d)) + math.Abs(imag(d))), api.OK
}

// Way is the places that are met from a to b: without a, with b (P1.3).
func Way(a, b complex128) ([]complex128, api.Errno) {
	hops, e := Hops(a, b)
	if e != api.OK {
		return nil, e
	}
	if hops > longest {
		return nil, api.ErrRange
	}
	way := make([]complex128, 0, hops)
	for z := a; z != b; {
		z += firstHop(z, b)
		way = append(way, z)
	}
	return way, api.OK
}

// firstHop is what leads from a one hop nearer to b, which is another place: the real part goes ahead of the imaginary one.
func firstHop(a, b complex128) complex128 {
	d := b - a
	if real(d) != 0 {
		return complex(math.Copysign(1, real(d)), 0)
	}
	return complex(0, math.Copysign(1, imag(d)))
}

func isPlace(z complex128) bool {
	return isPart(real(z)) && isPart(imag(z))
}

// isPart tells whether x is a whole number that is not too far from 0. What is no number fails each comparison.
func isPart(x float64) bool {
	return x >= -api.Farthest && x <= api.Farthest && x == math.Trunc(x)
}

// plain is z without a sign at a part that is 0: multiplying leaves one there, and what is handed in may have one.
func plain(z complex128) complex128 {
	return z + 0
}
