package types

import (
	"slices"

	"vestry/api"
)

// walk goes through one clause. It finds types, relations and constructors by methods of a catalog, held as values, and has the variables that got types so far.
type walk struct {
	base  func(t string) (string, bool)
	below func(a, b string) bool
	decl  func(name string) (api.Decl, bool)
	ctor  func(name string) (api.Ctor, string, bool)
	vars  []api.Field
	place map[string]int
}

// infer are the variables of a clause with their types.
func (c *catalog) infer(clause api.Clause) ([]api.Field, api.Fault) {
	w := walk{base: c.base, below: c.below, decl: c.decl, ctor: c.ctor, place: map[string]int{}}
	if fault := w.clause(clause); fault.Why != api.OK {
		return nil, fault
	}
	return w.vars, api.Fault{}
}

// wrong is a fault at an expression.
func wrong(why api.Errno, x api.Expr) api.Fault { return api.Fault{Why: why, At: x.At} }

func (w *walk) clause(c api.Clause) api.Fault {
	if fault := w.wrongAtoms(c); fault.Why != api.OK {
		return fault
	}
	for _, l := range c.Body {
		if fault := w.lit(l); fault.Why != api.OK {
			return fault
		}
	}
	return w.columns(c.Head, w.fitting)
}

// wrongAtoms is the first fault of a clause's atoms by their relations: no type counts ahead of it.
func (w *walk) wrongAtoms(c api.Clause) api.Fault {
	if fault := w.wrongAtom(c.Head); fault.Why != api.OK {
		return fault
	}
	for _, l := range c.Body {
		if l.Kind != api.LAtom && l.Kind != api.LNot {
			continue
		}
		if fault := w.wrongAtom(l.Atom); fault.Why != api.OK {
			return fault
		}
	}
	return api.Fault{}
}

func (w *walk) wrongAtom(a api.Atom) api.Fault {
	d, there := w.decl(a.Rel)
	if !there {
		return api.Fault{Why: api.ErrNone, At: a.At}
	}
	if len(a.Args) != len(d.Cols) {
		return api.Fault{Why: api.ErrWidth, At: a.At}
	}
	return api.Fault{}
}

func (w *walk) lit(l api.Lit) api.Fault {
	switch l.Kind {
	case api.LAtom:
		return w.columns(l.Atom, w.pattern)
	case api.LNot:
		return w.columns(l.Atom, w.likened)
	case api.LCmp:
		return w.comparison(l)
	}
	return api.Fault{Why: api.ErrArg, At: l.At}
}

// columns looks at an atom's arguments, column by column.
func (w *walk) columns(a api.Atom, look func(x api.Expr, t string) api.Fault) api.Fault {
	d, _ := w.decl(a.Rel)
	return each(a.Args, d.Cols, look)
}

// each looks at expressions, each with the type of its field. There are as many of the one as of the other.
func each(list []api.Expr, fields []api.Field, look func(x api.Expr, t string) api.Fault) api.Fault {
	for i, x := range list {
		if fault := look(x, fields[i].Type); fault.Why != api.OK {
			return fault
		}
	}
	return api.Fault{}
}

func (w *walk) comparison(l api.Lit) api.Fault {
	if !slices.Contains([]string{"=", "!=", "<", "<=", ">", ">="}, l.Op) {
		return api.Fault{Why: api.ErrArg, At: l.At}
	}
	if l.Op == "=" && w.open(l.L) {
		return w.give(l.L.S, l.R)
	}
	if l.Op == "=" && w.open(l.R) {
		return w.give(l.R.S, l.L)
	}
	left, fault := w.value(l.L)
	if fault.Why != api.OK {
		return fault
	}
	right, fault := w.value(l.R)
	if fault.Why != api.OK {
		return fault
	}
	return w.wrongSides(l, left, right)
}

// wrongSides is the fault of a comparison by the types of its two sides.
func (w *walk) wrongSides(l api.Lit, left, right string) api.Fault {
	switch {
	case l.Op == "=" || l.Op == "!=":
		if !w.alike(left, right) {
			return wrong(api.ErrType, l.R)
		}
	case !w.has(left, number):
		return wrong(api.ErrType, l.L)
	case !w.has(right, number):
		return wrong(api.ErrType, l.R)
	}
	return api.Fault{}
}

// open tells whether an expression is a variable without a type.
func (w *walk) open(x api.Expr) bool {
	_, there := w.place[x.S]
	return x.Kind == api.EVar && !there
}

// give gives a variable without a type that of a value.
func (w *walk) give(name string, x api.Expr) api.Fault {
	t, fault := w.value(x)
	if fault.Why == api.OK {
		w.put(name, t)
	}
	return fault
}

func (w *walk) put(name, t string) {
	w.place[name] = len(w.vars)
	w.vars = append(w.vars, api.Field{Name: name, Type: t})
}

// has tells whether a type has this base.
func (w *walk) has(t, base string) bool {
	b, there := w.base(t)
	return there && b == base
}

// alike tells whether the bases of two types are the same. Two types without a base have none that are unlike.
func (w *walk) alike(a, b string) bool {
	one, there := w.base(a)
	other, also := w.base(b)
	return one == other && there == also
}
