package magic

import (
	"slices"
	"strings"

	"vestry/api"
	"vestry/rules"
)

// turner makes a turned program, pair by pair, as they come.
type turner struct {
	*cone
	made  api.Prog
	pairs []pair
	met   map[pair]int // of each pair its place
}

// turn is the turned program of a question, if there is one. It has lists in common with what was handed in.
func turn(p api.Prog, q api.Atom) (api.Prog, bool) {
	if !Question(p, q) || rules.Check(p).Why != api.OK || slices.ContainsFunc(p.Decls, pointed) {
		return api.Prog{}, false
	}
	c := newCone(p, q.Rel)
	if !c.turns(q.Rel) {
		return api.Prog{}, false
	}
	t := &turner{cone: c, made: api.Prog{Types: p.Types, Decls: c.given}, met: map[pair]int{}}
	t.begin(q)
	if !t.goOn() || longName(t.made) || rules.Check(t.made).Why != api.OK {
		return api.Prog{}, false
	}
	return t.made, true
}

// pointed tells whether a relation has a name like those that the turned program's new ones have.
func pointed(d api.Decl) bool { return strings.Contains(d.Name, ".") }

// begin puts in what a question asks for.
func (t *turner) begin(q api.Atom) {
	w := t.pair(q, bound{})
	t.add(w)
	t.put(api.Atom{Rel: w.asks(), Args: at(q.Args, w.pattern), At: q.At}, nil, q.At)
}

// goOn turns the Clauses of all pairs that come, and tells whether the program did not get too large. It ends where that is sure: there may be far more patterns than it has room for.
func (t *turner) goOn() bool {
	for i := 0; i < len(t.pairs); i++ {
		w := t.pairs[i]
		for _, c := range t.derived[w.rel].clauses {
			if t.many() || len(c.Body)+1 > api.MaxBody {
				return false
			}
			t.turnClause(w, c)
		}
	}
	return !t.many()
}

// many tells whether there are too many Decls and Clauses.
func (t *turner) many() bool {
	return len(t.made.Decls)+len(t.made.Clauses) > api.MaxRules
}

// add puts in the relations of a pair, once.
func (t *turner) add(w pair) {
	if _, there := t.met[w]; there {
		return
	}
	t.met[w] = len(t.pairs)
	t.pairs = append(t.pairs, w)
	d := t.derived[w.rel].decl
	t.made.Decls = append(t.made.Decls,
		api.Decl{Name: w.answers(), Cols: d.Cols, Output: t.met[w] == 0, At: d.At},
		api.Decl{Name: w.asks(), Cols: at(d.Cols, w.pattern), At: d.At},
	)
}

// put puts a Clause in.
func (t *turner) put(head api.Atom, body []api.Lit, place int) {
	t.made.Clauses = append(t.made.Clauses, api.Clause{Head: head, Body: body, At: place})
}

// turnClause puts in what a Clause asks for, atom by atom, and the Clause itself as it is turned.
func (t *turner) turnClause(w pair, c api.Clause) {
	args := at(c.Head.Args, w.pattern)
	b := bound{}
	b.bind(args...)
	body := []api.Lit{{Kind: api.LAtom, Atom: api.Atom{Rel: w.asks(), Args: args, At: c.At}, At: c.At}}
	for _, l := range c.Body {
		turned := l
		if _, there := t.derived[l.Atom.Rel]; there && l.Kind == api.LAtom {
			v := t.pair(l.Atom, b)
			t.add(v)
			t.put(api.Atom{Rel: v.asks(), Args: at(l.Atom.Args, v.pattern), At: l.Atom.At}, body, l.Atom.At)
			turned.Atom.Rel = v.answers()
		}
		b.pass(l)
		body = append(body, turned)
	}
	c.Head.Rel = w.answers()
	t.put(c.Head, body, c.At)
}

// longName tells whether a type, a constructor, a column or a relation has a name that is too long. Clauses have no other names than Decls.
func longName(p api.Prog) bool {
	return slices.ContainsFunc(p.Types, longType) || slices.ContainsFunc(p.Decls, func(d api.Decl) bool {
		return long(d.Name) || slices.ContainsFunc(d.Cols, longField)
	})
}

func long(name string) bool { return len(name) > api.MaxName }

func longField(f api.Field) bool { return long(f.Name) }

func longType(t api.TypeDecl) bool {
	return long(t.Name) || slices.ContainsFunc(t.Ctors, func(c api.Ctor) bool {
		return long(c.Name) || slices.ContainsFunc(c.Fields, longField)
	})
}
