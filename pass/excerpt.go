package pass

import (
	"slices"

	"vestry/api"
	"vestry/rules"
)

// excerpt is a program of one Clause, with just the relations and types that it needs: Check of it is not slowed down by all the others.
type excerpt struct {
	*names
	made     api.Prog
	metDecls map[int]int
	metTypes map[int]int
}

// taken tells whether Check takes what a Clause becomes. It takes the program with it just then: types are found Clause by Clause, no LNot comes into the stratum of its head, and the Clause stays recursive, or does not.
func (w *web) taken(c change) bool {
	e := &excerpt{names: w.names, metDecls: map[int]int{}, metTypes: map[int]int{}}
	e.add(c.becomes, w.recursive[c.clause])
	return rules.Check(e.made).Why == api.OK
}

// add adds a Clause. What makes it recursive is not in the excerpt: there an atom of its own relation, which gives no variable a type, does.
func (e *excerpt) add(c api.Clause, recursive bool) {
	e.needDecl(c.Head.Rel)
	for _, l := range c.Body {
		if related(l) {
			e.needDecl(l.Atom.Rel)
		}
	}
	within(&c, func(x *api.Expr) {
		if i, there := e.ctors[x.S]; there && x.Kind == api.ECon {
			e.needType(i)
		}
	})
	if recursive {
		c.Body = slices.Concat(c.Body, []api.Lit{anyOf(c.Head)})
	}
	e.made.Clauses = append(e.made.Clauses, c)
}

// anyOf is an atom of the relation of another one, which holds for any fact.
func anyOf(a api.Atom) api.Lit {
	args := slices.Repeat([]api.Expr{{Kind: api.EAny}}, len(a.Args))
	return api.Lit{Kind: api.LAtom, Atom: api.Atom{Rel: a.Rel, Args: args}}
}

// needDecl adds a relation, once.
func (e *excerpt) needDecl(name string) {
	i := e.decls[name]
	if _, there := e.metDecls[i]; there {
		return
	}
	e.metDecls[i] = i
	e.made.Decls = append(e.made.Decls, e.prog.Decls[i])
	e.needFields(e.prog.Decls[i].Cols)
}

// needFields adds those types of columns, or of a constructor's parts, that are the program's own.
func (e *excerpt) needFields(fields []api.Field) {
	for _, f := range fields {
		if i, there := e.types[f.Type]; there {
			e.needType(i)
		}
	}
}

// needType adds a type, once, and those that it leads to.
func (e *excerpt) needType(i int) {
	if _, there := e.metTypes[i]; there {
		return
	}
	e.metTypes[i] = i
	t := e.prog.Types[i]
	e.made.Types = append(e.made.Types, t)
	if sub, there := e.types[t.Sub]; there && t.Sub != "" {
		e.needType(sub)
	}
	for _, c := range t.Ctors {
		e.needFields(c.Fields)
	}
}
