package syn

import (
	"math"

	"vestry/api"
)

// noLimit is how many parts a list may have of which the document names no most.
const noLimit = math.MaxInt

// prog reads items up to a token, which stays.
func (r *reader) prog(endKind int, endText string) api.Prog {
	var p api.Prog
	for {
		next := r.ahead(0)
		if next.Kind == endKind && next.Text == endText {
			return p
		}
		r.item(&p)
	}
}

// item reads one item into a program.
func (r *reader) item(p *api.Prog) {
	if r.items == api.MaxRules {
		r.refuse(api.ErrMany)
	}
	r.items++
	switch r.sign() {
	case ".type":
		p.Types = append(p.Types, r.typeDecl())
	case ".decl":
		p.Decls = append(p.Decls, r.decl())
	case ".comp":
		p.Comps = append(p.Comps, r.comp())
	case ".init":
		p.Inits = append(p.Inits, r.instance())
	default:
		p.Clauses = append(p.Clauses, r.clause())
	}
}

func (r *reader) typeDecl() api.TypeDecl {
	t := api.TypeDecl{At: r.take().At}
	t.Name = r.word()
	if r.choose("<:", "=") == "<:" {
		t.Sub = r.name()
	} else {
		t.Ctors = list(r, "|", noLimit, r.ctor)
	}
	return t
}

func (r *reader) ctor() api.Ctor {
	c := api.Ctor{Name: r.word()}
	c.Fields = enclosed(r, "{", "}", r.field)
	return c
}

func (r *reader) field() api.Field {
	f := api.Field{Name: r.word()}
	r.want(":")
	f.Type = r.name()
	return f
}

func (r *reader) decl() api.Decl {
	d := api.Decl{At: r.take().At}
	d.Name = r.word()
	d.Cols = enclosed(r, "(", ")", r.field)
	// With a `(` behind it either word is a relation's name: the next item begins.
	for r.ahead(0).Kind == api.TokWord && !r.callNext() {
		switch r.ahead(0).Text {
		case "input":
			d.Input = true
		case "output":
			d.Output = true
		default:
			return d
		}
		r.take()
	}
	return d
}

func (r *reader) comp() api.Comp {
	r.enter()
	c := api.Comp{At: r.take().At}
	c.Name = r.word()
	if r.skip(":") {
		c.Bases = list(r, ",", noLimit, r.name)
	}
	r.want("{")
	c.Body = r.prog(api.TokSign, "}")
	r.want("}")
	r.leave()
	return c
}

func (r *reader) instance() api.Init {
	i := api.Init{At: r.take().At}
	i.Name = r.word()
	r.want("=")
	i.Comp = r.name()
	return i
}

func (r *reader) clause() api.Clause {
	c := api.Clause{At: r.ahead(0).At}
	c.Head = r.atom()
	if r.skip(":-") {
		c.Body = list(r, ",", api.MaxBody, r.lit)
	}
	r.want(".")
	return c
}

func (r *reader) atom() api.Atom {
	a := api.Atom{At: r.ahead(0).At}
	a.Rel = r.name()
	a.Args = enclosed(r, "(", ")", r.expr)
	return a
}

func (r *reader) lit() api.Lit {
	l := api.Lit{At: r.ahead(0).At}
	switch {
	case r.skip("!"):
		l.Kind = api.LNot
		l.Atom = r.atom()
	case r.callNext():
		l.Kind = api.LAtom
		l.Atom = r.atom()
	default:
		l.Kind = api.LCmp
		l.L = r.expr()
		l.Op = r.choose("=", "!=", "<", "<=", ">", ">=")
		l.R = r.expr()
	}
	return l
}
