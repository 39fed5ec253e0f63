package pass

import (
	"slices"

	"vestry/api"
)

// way is how a relation gives way: what Clauses become then, and none; else the Clause that keeps it from that.
type way func(w *web, r int) ([]change, int)

// alias does away with the first alias.
func alias(p *api.Prog) bool { return giveWay(p, asAlias, 1) }

// aliases does away with aliases, as long as there is one.
func aliases(p *api.Prog) bool { return giveWay(p, asAlias, len(p.Decls)) }

// inline inlines the first relation that can be.
func inline(p *api.Prog) bool { return giveWay(p, asBody, 1) }

// inlines inlines relations, as long as one can be.
func inlines(p *api.Prog) bool { return giveWay(p, asBody, len(p.Decls)) }

// giveWay lets so many relations at most give way, each time the first that can.
func giveWay(p *api.Prog, how way, most int) bool {
	w := newWeb(p)
	given := 0
	for given < most {
		r, there := w.next()
		if !there {
			break
		}
		changes, blocker := how(w, r)
		if blocker == none {
			w.give(r, changes)
			given++
		} else {
			w.wait(r, blocker)
		}
	}
	if given > 0 {
		w.sweep()
	}
	return given > 0
}

// asAlias puts another relation into the atoms of an alias.
func asAlias(w *web, r int) ([]change, int) {
	own := w.prog.Clauses[w.own[r]]
	if len(own.Body) != 1 || own.Body[0].Kind != api.LAtom || !slices.EqualFunc(own.Head.Args, own.Body[0].Atom.Args, sameVariable) {
		return nil, w.own[r]
	}
	other := own.Body[0].Atom.Rel
	alike := w.sameTypes(r, w.decls[other])
	var changes []change
	for _, k := range w.users(r) {
		c := change{k, renamed(w.prog.Clauses[k], w.of(r), other)}
		if !alike && !w.taken(c) {
			return nil, k
		}
		changes = append(changes, c)
	}
	return changes, none
}

// sameVariable tells whether what stands in an atom is a head's variable.
func sameVariable(head, arg api.Expr) bool { return arg.Kind == api.EVar && arg.S == head.S }

// sameTypes tells whether two relations' columns have the same types: then the one may stand wherever the other does.
func (w *web) sameTypes(a, b int) bool {
	return slices.EqualFunc(w.prog.Decls[a].Cols, w.prog.Decls[b].Cols, func(x, y api.Field) bool { return x.Type == y.Type })
}

// renamed is a Clause with another relation in some Lits.
func renamed(c api.Clause, which func(l api.Lit) bool, other string) api.Clause {
	c.Body = slices.Clone(c.Body)
	for i := range c.Body {
		if which(c.Body[i]) {
			c.Body[i].Atom.Rel = other
		}
	}
	return c
}

// asBody puts a relation's Body into the place of its atoms.
func asBody(w *web, r int) ([]change, int) {
	users := w.users(r)
	for _, k := range users {
		if w.odd(r, k) {
			return nil, k
		}
	}
	for _, k := range slices.Concat(users, w.longs) {
		if w.tooLong(r, k) {
			return nil, k
		}
	}
	own := w.prog.Clauses[w.own[r]]
	next := w.newWords()
	var changes []change
	for _, k := range users {
		c := change{k, spliced(w.prog.Clauses[k], own, next)}
		if !w.taken(c) {
			return nil, k
		}
		changes = append(changes, c)
	}
	return changes, none
}

// odd tells whether a relation stands in an LNot of a Clause, or with another Arg than a variable or `_`.
func (w *web) odd(r, k int) bool {
	is := w.of(r)
	return slices.ContainsFunc(w.prog.Clauses[k].Body, func(l api.Lit) bool {
		return is(l) && (l.Kind == api.LNot || slices.ContainsFunc(l.Atom.Args, isValue))
	})
}

func isValue(x api.Expr) bool { return x.Kind != api.EVar && x.Kind != api.EAny }

// tooLong tells whether a Clause that is left has more than MaxBody Lits when a relation is inlined.
func (w *web) tooLong(r, k int) bool {
	if w.gone[k] || k == w.own[r] {
		return false
	}
	is := w.of(r)
	more := len(w.prog.Clauses[w.own[r]].Body) - 1
	lits := 0
	for _, l := range w.prog.Clauses[k].Body {
		lits++
		if is(l) {
			lits += more
		}
	}
	return lits > api.MaxBody
}
