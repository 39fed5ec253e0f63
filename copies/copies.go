// Package copies makes copies of programs, of tables' rows, of programs of loops, and of their parts, that share no memory with what they are made of, nor one list with another.
package copies

import "vestry/api"

// Prog is a copy of a program.
func Prog(p api.Prog) api.Prog {
	return api.Prog{
		Types:   List(p.Types, Type),
		Decls:   List(p.Decls, Decl),
		Comps:   List(p.Comps, Comp),
		Inits:   Plain(p.Inits),
		Clauses: List(p.Clauses, Clause),
	}
}

// List is a new list of copies, each made by one; nil of nil.
func List[T any](list []T, one func(T) T) []T {
	if list == nil {
		return nil
	}
	twin := make([]T, len(list))
	for i, x := range list {
		twin[i] = one(x)
	}
	return twin
}

// Plain is a new list of things that hold no lists themselves; nil of nil.
func Plain[T any](list []T) []T {
	return List(list, func(x T) T { return x })
}

// Type is a copy of a type.
func Type(d api.TypeDecl) api.TypeDecl {
	d.Ctors = List(d.Ctors, ctor)
	return d
}

func ctor(c api.Ctor) api.Ctor {
	c.Fields = Plain(c.Fields)
	return c
}

// Decl is a copy of a relation.
func Decl(d api.Decl) api.Decl {
	d.Cols = Plain(d.Cols)
	return d
}

// Comp is a copy of a component.
func Comp(c api.Comp) api.Comp {
	c.Bases = Plain(c.Bases)
	c.Body = Prog(c.Body)
	return c
}

// Clause is a copy of a clause.
func Clause(c api.Clause) api.Clause {
	c.Head = Atom(c.Head)
	c.Body = List(c.Body, Lit)
	return c
}

// Lit is a copy of a literal.
func Lit(l api.Lit) api.Lit {
	l.Atom = Atom(l.Atom)
	l.L = Expr(l.L)
	l.R = Expr(l.R)
	return l
}

// Atom is a copy of an atom.
func Atom(a api.Atom) api.Atom {
	a.Args = List(a.Args, Expr)
	return a
}

// Expr is a copy of an expression.
func Expr(x api.Expr) api.Expr {
	x.Kids = List(x.Kids, Expr)
	return x
}

// Row is a copy of a row.
func Row(r api.Row) api.Row {
	r.Args = List(r.Args, Val)
	return r
}
