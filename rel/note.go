package rel

import (
	"math"

	"vestry/api"
)

// most is the greatest number that a height or a rule may be, and the least one's without its sign: floats hold all whole numbers between them.
const most = 1 << 50

// Note is the note of a height and a rule.
func Note(height, rule int) (complex128, api.Errno) {
	if !within(height) || !within(rule) {
		return 0, api.ErrArg
	}
	return noteOf(height, rule), api.OK
}

// Height is a note's height and rule.
func Height(note complex128) (int, int, bool) {
	if !whole(real(note)) || !whole(imag(note)) {
		return 0, 0, false
	}
	return int(real(note)), int(imag(note)), true
}

func noteOf(height, rule int) complex128 {
	return complex(float64(height), float64(rule))
}

// better tells whether a note is better than another one.
func better(a, b complex128) bool {
	if real(a) != real(b) {
		return real(a) < real(b)
	}
	return imag(a) < imag(b)
}

func within(n int) bool {
	return -most <= n && n <= most
}

// whole tells whether a note's part is a whole number that may be one. NaN is not the same as anything, and an infinity lies beyond all.
func whole(part float64) bool {
	return math.Trunc(part) == part && math.Abs(part) <= most
}
