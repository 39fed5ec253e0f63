package pass

import "vestry/api"

// related tells whether a Lit has a relation.
func related(l api.Lit) bool { return l.Kind == api.LAtom || l.Kind == api.LNot }

// within looks at all expressions of a Clause, or writes them anew: its head's, then its Body's.
func within(c *api.Clause, look func(x *api.Expr)) {
	each(c.Head.Args, look)
	withinLits(c.Body, look)
}

// withinLits looks at all expressions of Lits, in order.
func withinLits(lits []api.Lit, look func(x *api.Expr)) {
	for i := range lits {
		l := &lits[i]
		each(l.Atom.Args, look)
		deep(&l.L, look)
		deep(&l.R, look)
	}
}

func each(list []api.Expr, look func(x *api.Expr)) {
	for i := range list {
		deep(&list[i], look)
	}
}

// deep looks at an expression's Kids first, so that what comes of them is seen.
func deep(x *api.Expr, look func(x *api.Expr)) {
	each(x.Kids, look)
	look(x)
}
