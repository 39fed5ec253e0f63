package rules

import "math/bits"

// How many numbers a word, and a block of words, has room for.
const (
	ofWord  = 64
	ofBlock = 8 * ofWord
)

// block has numbers that lie side by side, a bit for each.
type block [ofBlock / ofWord]uint64

// set is a set of relations by their numbers, in as many arrays as these need: one array with room for all that the bound allows would be far too great for most programs.
type set []block

// newSet is an empty set with room for the numbers below this one.
func newSet(n int) set { return make(set, (n+ofBlock-1)/ofBlock) }

// word is where a number lies, and which bit it is there.
func (s set) word(n int) (*uint64, uint64) {
	return &s[n/ofBlock][n%ofBlock/ofWord], 1 << (n % ofWord)
}

func (s set) has(n int) bool {
	word, bit := s.word(n)
	return *word&bit != 0
}

// add puts a number in, and tells whether it was not there.
func (s set) add(n int) bool {
	word, bit := s.word(n)
	fresh := *word&bit == 0
	*word |= bit
	return fresh
}

// take takes the least number out, if there is one.
func (s set) take() (int, bool) {
	for i := range s {
		for k, word := range s[i] {
			if word != 0 {
				s[i][k] = word & (word - 1)
				return i*ofBlock + k*ofWord + bits.TrailingZeros64(word), true
			}
		}
	}
	return 0, false
}
