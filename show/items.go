package show

import "vestry/api"

func (w *writer) prog(p api.Prog) {
	lines(w, p.Types, w.typeDecl)
	lines(w, p.Decls, w.decl)
	lines(w, p.Comps, w.comp)
	lines(w, p.Inits, w.instance)
	lines(w, p.Clauses, w.clause)
}

func (w *writer) typeDecl(t api.TypeDecl) {
	w.put(".type ", t.Name)
	if t.Sub != "" {
		w.put(" <: ", t.Sub)
		return
	}
	w.add(" = ")
	list(w, " | ", t.Ctors, w.ctor)
}

func (w *writer) ctor(c api.Ctor) {
	w.put(c.Name, " {")
	list(w, ", ", c.Fields, w.field)
	w.add("}")
}

func (w *writer) field(f api.Field) {
	w.put(f.Name, ": ", f.Type)
}

func (w *writer) decl(d api.Decl) {
	w.put(".decl ", d.Name, "(")
	list(w, ", ", d.Cols, w.field)
	w.add(")")
	if d.Input {
		w.add(" input")
	}
	if d.Output {
		w.add(" output")
	}
}

func (w *writer) comp(c api.Comp) {
	w.put(".comp ", c.Name)
	if len(c.Bases) > 0 {
		w.add(" : ")
		list(w, ", ", c.Bases, w.add)
	}
	w.add(" {\n")
	w.prog(c.Body)
	w.add("}")
}

func (w *writer) instance(i api.Init) {
	w.put(".init ", i.Name, " = ", i.Comp)
}

func (w *writer) clause(c api.Clause) {
	w.atom(c.Head)
	if len(c.Body) > 0 {
		w.add(" :- ")
		list(w, ", ", c.Body, w.lit)
	}
	w.add(".")
}

func (w *writer) atom(a api.Atom) {
	w.put(a.Rel, "(")
	list(w, ", ", a.Args, w.expr)
	w.add(")")
}

// lit writes a Lit; one of no Kind has no text.
func (w *writer) lit(l api.Lit) {
	switch l.Kind {
	case api.LAtom:
		w.atom(l.Atom)
	case api.LNot:
		w.add("!")
		w.atom(l.Atom)
	case api.LCmp:
		w.expr(l.L)
		w.put(" ", l.Op, " ")
		w.expr(l.R)
	}
}
