package pass

import (
	"slices"

	"vestry/api"
	"vestry/rules"
)

// none is the number of no Clause.
const none = -1

// web has a program's relations and Clauses by their numbers, while relations give way. What went keeps its number until the end. What a relation that is left hangs on stays, but for those that went: so do the strata, and which Clauses are recursive. Heads stay, too.
type web struct {
	*names
	own       []int   // of each relation that may give way its Clause; of any other one none
	bodies    [][]int // of each relation the Clauses in whose Bodies it stands, and some that went
	recursive []bool  // of each Clause
	goneDecl  []bool
	gone      []bool // of each Clause
	words     map[int]int
	longs     []int   // the Clauses of more than MaxBody Lits, and some that had them: no other ones get so long
	waits     [][]int // of each Clause the relations that it keeps from giving way
	open      []bool  // which relations no Clause is known to keep from it
	from      int     // no relation ahead of this one is open
}

func newWeb(p *api.Prog) *web {
	w := &web{
		names:     newNames(p),
		own:       slices.Repeat([]int{none}, len(p.Decls)),
		bodies:    make([][]int, len(p.Decls)),
		recursive: make([]bool, len(p.Clauses)),
		goneDecl:  make([]bool, len(p.Decls)),
		gone:      make([]bool, len(p.Clauses)),
		words:     map[int]int{},
		waits:     make([][]int, len(p.Clauses)),
		open:      make([]bool, len(p.Decls)),
	}
	for k, c := range p.Clauses {
		w.count(k, 1)
		w.stand(k, c.Body)
		if len(c.Body) > api.MaxBody {
			w.longs = append(w.longs, k)
		}
	}
	w.findRecursive()
	w.findOwn()
	return w
}

// findRecursive finds the recursive Clauses, by the strata.
func (w *web) findRecursive() {
	strata, _ := rules.Strata(*w.prog)
	stratum := make([]int, len(w.prog.Decls))
	for i, row := range strata {
		for _, name := range row {
			stratum[w.decls[name]] = i
		}
	}
	for k, c := range w.prog.Clauses {
		head := stratum[w.decls[c.Head.Rel]]
		w.recursive[k] = slices.ContainsFunc(c.Body, func(l api.Lit) bool {
			return l.Kind == api.LAtom && stratum[w.decls[l.Atom.Rel]] == head
		})
	}
}

// findOwn finds the relations that may give way. One that hangs on itself has a recursive Clause, as no LNot is of its stratum.
func (w *web) findOwn() {
	heads := make([]int, len(w.prog.Decls))
	for k, c := range w.prog.Clauses {
		r := w.decls[c.Head.Rel]
		heads[r]++
		if !w.recursive[k] && unlike(c.Head.Args) {
			w.own[r] = k
		}
	}
	for r, d := range w.prog.Decls {
		if d.Input || d.Output || heads[r] != 1 {
			w.own[r] = none
		}
		w.open[r] = w.own[r] != none
	}
}

// unlike tells whether expressions are variables, no two of which are the same.
func unlike(list []api.Expr) bool {
	met := make(map[string]int, len(list))
	for i, x := range list {
		if _, there := met[x.S]; there || x.Kind != api.EVar {
			return false
		}
		met[x.S] = i
	}
	return true
}

// count counts the words of a Clause's variables that could be new ones': by 1 when it comes, by -1 when it goes.
func (w *web) count(k, by int) {
	within(&w.prog.Clauses[k], func(x *api.Expr) {
		if n, is := number(*x); is {
			w.words[n] += by
		}
	})
}

// stand tells that the relations of some Lits stand in a Clause now.
func (w *web) stand(k int, lits []api.Lit) {
	for _, l := range lits {
		if related(l) {
			r := w.decls[l.Atom.Rel]
			w.bodies[r] = append(w.bodies[r], k)
		}
	}
}

// users are the Clauses, in order, in whose Bodies a relation stands.
func (w *web) users(r int) []int {
	slices.Sort(w.bodies[r])
	w.bodies[r] = slices.DeleteFunc(slices.Compact(w.bodies[r]), func(k int) bool { return w.gone[k] })
	return w.bodies[r]
}

// of tells of Lits whether they have this relation.
func (w *web) of(r int) func(l api.Lit) bool {
	name := w.prog.Decls[r].Name
	return func(l api.Lit) bool { return related(l) && l.Atom.Rel == name }
}

// next is the first open relation, which is not open any more then.
func (w *web) next() (int, bool) {
	for ; w.from < len(w.open); w.from++ {
		if w.open[w.from] {
			w.open[w.from] = false
			return w.from, true
		}
	}
	return 0, false
}

// wait lets a relation be, until the Clause that keeps it from giving way turns, or its own one does.
func (w *web) wait(r, k int) {
	w.waits[k] = append(w.waits[k], r)
	if own := w.own[r]; own != k {
		w.waits[own] = append(w.waits[own], r)
	}
}

// wake opens the relations that waited for a Clause, but for those that went.
func (w *web) wake(k int) {
	for _, r := range w.waits[k] {
		if !w.goneDecl[r] {
			w.open[r] = true
			w.from = min(w.from, r)
		}
	}
	w.waits[k] = nil
}

// change is what a Clause becomes.
type change struct {
	clause  int
	becomes api.Clause
}

// give lets a relation give way.
func (w *web) give(r int, changes []change) {
	own := w.own[r]
	w.count(own, -1)
	w.gone[own], w.goneDecl[r], w.bodies[r] = true, true, nil
	w.wake(own)
	for _, c := range changes {
		w.count(c.clause, -1)
		w.prog.Clauses[c.clause] = c.becomes
		w.count(c.clause, 1)
		w.stand(c.clause, w.prog.Clauses[own].Body)
		w.wake(c.clause)
	}
}

// sweep leaves the program what did not go.
func (w *web) sweep() {
	w.prog.Decls = kept(w.prog.Decls, w.goneDecl)
	w.prog.Clauses = kept(w.prog.Clauses, w.gone)
}

// kept are the elements that are not gone.
func kept[T any](list []T, gone []bool) []T {
	var stay []T
	for i, x := range list {
		if !gone[i] {
			stay = append(stay, x)
		}
	}
	return stay
}
