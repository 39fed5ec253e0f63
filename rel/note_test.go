package rel

import (
	"math"
	"testing"

	"vestry/api"
)

// noNotes: complex numbers that are no notes.
func noNotes() []complex128 {
	var all []complex128
	for _, part := range []float64{
		math.NaN(), math.Inf(1), math.Inf(-1), 0.5, -0.5, 1e-300, -math.SmallestNonzeroFloat64, 3.0000000001, 1<<50 - 0.5, -1<<50 + 0.25, 1<<50 + 0.25, -1<<50 - 0.25, 1<<50 + 1, -1<<50 - 1, 1 << 51, 1 << 53, 1 << 63, -1 << 63, 1e300, math.MaxFloat64, -math.MaxFloat64,
	} {
		all = append(all, complex(part, 0), complex(0, part), complex(part, 7), complex(-7, part), complex(part, part))
	}
	return append(all, complex(math.NaN(), math.Inf(1)), complex(math.Inf(-1), 0.5))
}

// P7.1: a note is its height and its rule, and gives them back.
func TestNote(t *testing.T) {
	parts := []int{0, 1, -1, 2, 1000, -1000, 1<<49 + 1, 1<<50 - 1, 1 << 50, -1<<50 + 1, -1 << 50}
	for _, height := range parts {
		for _, rule := range parts {
			note, e := Note(height, rule)
			if e != api.OK || real(note) != float64(height) || imag(note) != float64(rule) {
				t.Fatal("Note", height, rule, note, e)
			}
			if h, n, is := Height(note); h != height || n != rule || !is {
				t.Fatal("Height", note, h, n, is)
			}
		}
	}
}

// P7.1: heights and rules just beyond, and far beyond.
func TestNoteBeyond(t *testing.T) {
	for _, part := range []int{1<<50 + 1, -1<<50 - 1, 1 << 51, 1<<53 + 1, math.MaxInt, math.MinInt} {
		for _, other := range []int{0, 3, -1 << 50, part} {
			if note, e := Note(part, other); note != 0 || e != api.ErrArg {
				t.Fatal(part, other, note, e)
			}
			if note, e := Note(other, part); note != 0 || e != api.ErrArg {
				t.Fatal(other, part, note, e)
			}
		}
	}
}

// P7.1: what is no note has no height and no rule.
func TestHeightOfNoNote(t *testing.T) {
	for _, note := range noNotes() {
		if height, rule, is := Height(note); height != 0 || rule != 0 || is {
			t.Fatal(note, height, rule, is)
		}
	}
}

// P7.1: a part of -0 is 0.
func TestHeightOfNought(t *testing.T) {
	down := math.Copysign(0, -1)
	for _, c := range []struct {
		note         complex128
		height, rule int
	}{
		{complex(down, down), 0, 0},
		{complex(down, 0), 0, 0},
		{complex(0, down), 0, 0},
		{complex(down, 5), 0, 5},
		{complex(-5, down), -5, 0},
	} {
		if height, rule, is := Height(c.note); height != c.height || rule != c.rule || !is {
			t.Fatal(c.note, height, rule, is)
		}
	}
}
