// Package copies makes copies of programs, of tables' rows, and of their parts, that share no memory with what they are made of, nor one list with another.
package copies

import "vestry/api"

// Prog is a copy of a program.
func Prog(p api.Prog) api.Prog {
	return api.Prog{
		Types:   List(p.Types, Type),
		Decls:   List(p.Decls, Decl),
		Comps:   List(p.Comps, Comp),
		Inits:   Plain(p.Inits),
		Clauses: List(p.Clauses, Clause),
	}
}

// List is a new list of copies, each made by one; nil of nil.
func List[T any](list []T, one func(T) T) []T {
	if list == nil {
		return nil
	}
	twin := make([]T, len(list))
	for i, x := range list {
		twin[i] = one(x)
	}
	return twin
}

// Plain is a new list of things that hold no lists themselves; nil of nil.
func Plain[T any](list []T) []T {
	return List(list, func(x T) T { return x })
}

// Type is a copy of a type.
func Type(d api.TypeDecl) api.TypeDecl {
	d.Ctors = List(d.Ctors, ctor)
	return d
}

func ctor(c api.Ctor) api.Ctor {
	c.Fields = Plain(c.Fields)
	return c
}

// Decl is a copy of a relation.
func Decl(d api.Decl) api.Decl {
	d.Cols = Plain(d.Cols)
	return d
}

// Comp is a copy of a component.
func Comp(c api.Comp) api.Comp {
	c.Bases = Plain(c.Bases)
	c.Body = Prog(c.Body)
	return c
}

// Clause is a copy of a clause.
func Clause(c api.Clause) api.Clause {
	c.Head = Atom(c.Head)
	c.Body = List(c.Body, Lit)
	return c
}

// Lit is a copy of a literal.
func Lit(l api.Lit) api.Lit {
	l.Atom = Atom(l.Atom)
	l.L = Expr(l.L)
	l.R = Expr(l.R)
	return l
}

// Atom is a copy of an atom.
func Atom(a api.Atom) api.Atom {
	a.Args = List(a.Args, Expr)
	return a
}

// Expr is a copy of an expression.
func Expr(x api.Expr) api.Expr {
	x.Kids = List(x.Kids, Expr)
	return x
}

// Row is a copy of a row.
func Row(r api.Row) api.Row {
	r.Args = List(r.Args, Val)
	return r
}

// place is where a list of values lies, and how long it is.
type place struct {
	first *api.Val
	size  int
}

// treeParts is how many parts of a value have copies of their own at least.
const treeParts = 1 << 16

// Val is a copy of a value. A value may hold itself, or one part again and again, and the copying must end there, too: behind so many parts it copies each list once.
func Val(v api.Val) api.Val {
	met := map[place][]api.Val{}
	parts := 0
	var left [][]api.Val
	twin := func(args []api.Val) []api.Val {
		if len(args) == 0 {
			return Plain(args)
		}
		here := place{&args[0], len(args)}
		if own, there := met[here]; there {
			return own
		}
		own := Plain(args)
		left = append(left, own)
		parts += len(own)
		if parts > treeParts {
			met[here] = own
		}
		return own
	}
	v.Args = twin(v.Args)
	for len(left) > 0 {
		own := left[len(left)-1]
		left = left[:len(left)-1]
		for i := range own {
			own[i].Args = twin(own[i].Args)
		}
	}
	return v
}
