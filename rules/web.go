package rules

import "vestry/api"

// web has which relations hang on which directly, by numbers: those of the Decls in order, then names that only Clauses have, which a program that is not taken may.
type web struct {
	numbers map[string]int
	names   []string
	below   [][]int // of each relation those that it hangs on
	above   [][]int // of each relation those that hang on it
}

func newWeb(p api.Prog) *web {
	w := &web{numbers: make(map[string]int, len(p.Decls))}
	for _, d := range p.Decls {
		w.number(d.Name)
	}
	for _, c := range p.Clauses {
		head := w.number(c.Head.Rel)
		for _, l := range c.Body {
			if l.Kind == api.LAtom || l.Kind == api.LNot {
				w.join(head, w.number(l.Atom.Rel))
			}
		}
	}
	return w
}

// number is the number of a name, which gets one where it has none.
func (w *web) number(name string) int {
	n, there := w.numbers[name]
	if !there {
		n = len(w.names)
		w.numbers[name] = n
		w.names = append(w.names, name)
		w.below = append(w.below, nil)
		w.above = append(w.above, nil)
	}
	return n
}

func (w *web) join(head, hung int) {
	w.below[head] = append(w.below[head], hung)
	w.above[hung] = append(w.above[hung], head)
}

// spread goes on from a relation, step by step, to all that are not in the set yet, puts them there, and lists them. The first one itself is among them only if steps lead back to it.
func spread(steps [][]int, from int, met set) []int {
	var found []int
	left := []int{from}
	for len(left) > 0 {
		at := left[len(left)-1]
		left = left[:len(left)-1]
		for _, next := range steps[at] {
			if met.add(next) {
				found = append(found, next)
				left = append(left, next)
			}
		}
	}
	return found
}

// ends lists all relations, each one behind all those that were first come to from it. So, seen from the list's end, the first relation of a stratum stands ahead of all strata that this one hangs on.
func (w *web) ends() []int {
	met := newSet(len(w.names))
	var list []int
	var visit func(at int)
	visit = func(at int) {
		for _, next := range w.below[at] {
			if met.add(next) {
				visit(next)
			}
		}
		list = append(list, at)
	}
	for at := range w.names {
		if met.add(at) {
			visit(at)
		}
	}
	return list
}
