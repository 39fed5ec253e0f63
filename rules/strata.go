package rules

import (
	"slices"

	"vestry/api"
)

// strata has of each relation its stratum, by the least number in it, so that of several the least has the first Decl.
type strata struct {
	*web
	of    []int
	round set // the relations that hang on themselves
}

// settled finds the strata: what leads to a relation, and is of none that came from the end of the list of ends, is of its stratum.
func settled(w *web) *strata {
	s := &strata{web: w, of: make([]int, len(w.names)), round: newSet(len(w.names))}
	gone := newSet(len(w.names))
	for _, at := range slices.Backward(w.ends()) {
		if gone.add(at) {
			s.gather(append(spread(w.above, at, gone), at))
		}
	}
	for at, list := range w.below {
		for _, hung := range list {
			if s.of[at] == s.of[hung] {
				s.round.add(at)
			}
		}
	}
	return s
}

// gather makes relations one stratum.
func (s *strata) gather(members []int) {
	least := slices.Min(members)
	for _, at := range members {
		s.of[at] = least
	}
}

// both tells whether two relations hang on one another; of one relation, whether it hangs on itself.
func (s *strata) both(a, b string) bool {
	one, there := s.numbers[a]
	other, also := s.numbers[b]
	return there && also && s.of[one] == s.of[other] && s.round.has(one)
}

// recursive tells whether a clause is recursive, one of the program's or any other one.
func (s *strata) recursive(c api.Clause) bool {
	return slices.ContainsFunc(c.Body, func(l api.Lit) bool {
		return l.Kind == api.LAtom && s.both(c.Head.Rel, l.Atom.Rel)
	})
}

// wrong is the fault of a clause whose types are right.
func (s *strata) wrong(c api.Clause) api.Fault {
	for _, l := range c.Body {
		if l.Kind == api.LNot && s.both(c.Head.Rel, l.Atom.Rel) {
			return api.Fault{Why: api.ErrStrat, At: l.At}
		}
	}
	if !s.recursive(c) {
		return api.Fault{}
	}
	vars := newOrigins(c.Body)
	for _, x := range c.Head.Args {
		if vars.of(x) == made {
			return api.Fault{Why: api.ErrFinite, At: x.At}
		}
	}
	return api.Fault{}
}

// inOrder are the strata's names, each stratum behind all those that it hangs on.
func (s *strata) inOrder() [][]string {
	members := make([][]int, len(s.names))
	waits := make([]int, len(s.names))
	for at, list := range s.below {
		members[s.of[at]] = append(members[s.of[at]], at)
		for _, hung := range list {
			if s.of[at] != s.of[hung] {
				waits[s.of[at]]++
			}
		}
	}
	ready := newSet(len(s.names))
	for at, least := range s.of {
		if at == least && waits[at] == 0 {
			ready.add(at)
		}
	}
	var rows [][]string
	for next, there := ready.take(); there; next, there = ready.take() {
		rows = append(rows, s.row(members[next]))
		s.release(members[next], waits, ready)
	}
	return rows
}

// row are the names of a stratum's relations.
func (s *strata) row(members []int) []string {
	names := make([]string, len(members))
	for i, at := range members {
		names[i] = s.names[at]
	}
	return names
}

// release lets those strata be next that waited for this one alone.
func (s *strata) release(members, waits []int, ready set) {
	for _, at := range members {
		for _, up := range s.above[at] {
			above := s.of[up]
			if above == s.of[at] {
				continue
			}
			waits[above]--
			if waits[above] == 0 {
				ready.add(above)
			}
		}
	}
}
