package lower

import (
	"math/rand"
	"slices"
	"strconv"
	"testing"

	"vestry/api"
	"vestry/rules"
	"vestry/show"
)

// chance makes programs and facts by chance.
type chance struct{ *rand.Rand }

func newChance(seed int64) chance { return chance{rand.New(rand.NewSource(seed))} }

// one: true once in so many times.
func (m chance) one(in int) bool { return m.Intn(in) == 0 }

func (m chance) word(from ...string) string { return from[m.Intn(len(from))] }

func (m chance) expr(kind, n int, s string, kids ...api.Expr) api.Expr {
	return api.Expr{Kind: kind, N: n, S: s, Kids: kids, At: m.Intn(1 << 16)}
}

// literal: a number or a text.
func (m chance) literal(symbol bool) api.Expr {
	if symbol {
		return m.expr(api.EText, 0, m.word("a", "b", "1"))
	}
	return m.expr(api.ENum, m.Intn(4), "")
}

// clause: a Clause as it is made, Lit by Lit, with the variables that have types, by the types' bases.
type clause struct {
	chance
	typed map[string][]string
	words int
}

// fresh: a variable that has no type yet.
func (c *clause) fresh(base string) api.Expr {
	c.words++
	word := "x" + strconv.Itoa(c.words)
	c.typed[base] = append(c.typed[base], word)
	return c.expr(api.EVar, 0, word)
}

// value: a value of a base, mostly a variable that is there.
func (c *clause) value(base string) api.Expr {
	switch {
	case len(c.typed[base]) > 0 && !c.one(6):
		return c.expr(api.EVar, 0, c.word(c.typed[base]...))
	case base == "T" && c.one(2):
		return c.expr(api.ECon, 0, "Leaf")
	case base == "T":
		return c.expr(api.ECon, 0, "Node", c.value("number"), c.value("T"))
	case base == "number" && c.one(3):
		return c.expr(api.EOp, 0, c.word("+", "-", "*", "+", "-", "*", "/", "%"), c.value(base), c.value(base))
	}
	return c.literal(base == "symbol")
}

// pattern: what may stand in an LAtom.
func (c *clause) pattern(base string) api.Expr {
	switch {
	case c.one(8):
		return c.expr(api.EAny, 0, "")
	case base == "T" && c.one(2):
		return c.expr(api.ECon, 0, "Node", c.pattern("number"), c.pattern("T"))
	case len(c.typed[base]) == 0 && !c.one(9) || c.one(2):
		return c.fresh(base)
	}
	return c.value(base)
}

// atom: an atom of a relation, each Arg by its column's base.
func (c *clause) atom(d api.Decl, argument func(base string) api.Expr) api.Atom {
	a := api.Atom{Rel: d.Name, At: c.Intn(1 << 16)}
	for _, col := range d.Cols {
		base := col.Type
		if base == "A" {
			base = "number"
		}
		a.Args = append(a.Args, argument(base))
	}
	return a
}

// lit: an atom, or a comparison, which may give a variable its type.
func (c *clause) lit(decls []api.Decl) api.Lit {
	l := api.Lit{Kind: api.LCmp, Op: "=", At: c.Intn(1 << 16)}
	base := c.word("number", "number", "symbol", "T")
	switch c.Intn(12) {
	case 0:
		l.Op, l.L, l.R = c.word("<", "<=", ">", ">="), c.value("number"), c.value("number")
	case 1:
		l.Op, l.L, l.R = c.word("=", "!=", "!="), c.value(base), c.value(base)
	case 2:
		l.L = c.value(base)
		l.R = c.fresh(base)
	case 3:
		l.R = c.value(base)
		l.L = c.fresh(base)
	default:
		l.Kind, l.Op = api.LAtom, ""
		d := decls[max(c.Intn(len(decls)), c.Intn(len(decls)))]
		if c.one(5) {
			l.Kind = api.LNot
			l.Atom = c.atom(decls[c.Intn(len(decls))], c.value)
		} else {
			l.Atom = c.atom(d, c.pattern)
		}
	}
	return l
}

// head: a head's Arg, mostly a variable.
func (c *clause) head(base string) api.Expr {
	if len(c.typed[base]) > 0 && !c.one(12) {
		return c.expr(api.EVar, 0, c.word(c.typed[base]...))
	}
	return c.value(base)
}

// clause: a Clause of a relation, of those relations that may stand in its Body.
func (m chance) clause(d api.Decl, body []api.Decl) api.Clause {
	c := &clause{chance: m, typed: map[string][]string{}}
	made := api.Clause{At: m.Intn(1 << 16)}
	for range m.Intn(4) + m.Intn(2) {
		made.Body = append(made.Body, c.lit(body))
	}
	made.Head = c.atom(d, c.head)
	return made
}

// decl: a relation of few columns.
func (m chance) decl(name string, columns int) api.Decl {
	d := api.Decl{Name: name, Output: m.one(3), At: m.Intn(1 << 16)}
	for i := range columns {
		d.Cols = append(d.Cols, api.Field{Name: "c" + strconv.Itoa(i), Type: m.word("number", "number", "number", "A", "symbol", "T")})
	}
	return d
}

// prog: a program that is taken: some relations that are given, some that are derived, of those and of one another.
func (m chance) prog() api.Prog {
	parts := []api.Field{{Name: "v", Type: "number"}, {Name: "l", Type: "T"}}
	p := api.Prog{Types: []api.TypeDecl{{Name: "A", Sub: "number"}, {Name: "T", Ctors: []api.Ctor{{Name: "Leaf"}, {Name: "Node", Fields: parts}}}}}
	given, derived := 2+m.Intn(3), 1+m.Intn(5)
	for i := range given + derived {
		d := m.decl("e"+strconv.Itoa(i), m.Intn(4))
		d.Input = i < given && !m.one(5) || m.one(20)
		p.Decls = append(p.Decls, d)
	}
	decls := slices.Clone(p.Decls)
	for i := given; i < len(decls); i++ {
		for range 1 + m.Intn(3) {
			body := decls[:i]
			if m.one(2) {
				body = decls
			}
			p = m.more(p, func() api.Clause { return m.clause(decls[i], body) })
		}
	}
	m.Shuffle(len(p.Decls), func(i, k int) { p.Decls[i], p.Decls[k] = p.Decls[k], p.Decls[i] })
	m.Shuffle(len(p.Clauses), func(i, k int) { p.Clauses[i], p.Clauses[k] = p.Clauses[k], p.Clauses[i] })
	return p
}

// paths: a program of relations of two numbers, whose Clauses lead from one to the next, in any order.
func (m chance) paths() api.Prog {
	var p api.Prog
	derived := 1 + m.Intn(3)
	for i := range derived + 2 {
		cols := []api.Field{{Name: "from", Type: "number"}, {Name: "to", Type: "number"}}
		p.Decls = append(p.Decls, api.Decl{Name: "r" + strconv.Itoa(i), Cols: cols, Input: i >= derived || m.one(9), At: m.Intn(1 << 16)})
	}
	for i := range derived {
		for k := range 1 + m.Intn(4) {
			p = m.more(p, func() api.Clause { return m.path(p.Decls, i, k) })
		}
	}
	return p
}

// path: a Clause of a relation, the first one of those behind it alone.
func (m chance) path(decls []api.Decl, at, number int) api.Clause {
	word := func(i int) api.Expr { return m.expr(api.EVar, 0, "x"+strconv.Itoa(i)) }
	steps := 1 + m.Intn(3)
	c := api.Clause{Head: api.Atom{Rel: decls[at].Name, Args: []api.Expr{word(0), word(steps)}, At: m.Intn(1 << 16)}, At: m.Intn(1 << 16)}
	for i := range steps {
		from := 0
		if number == 0 {
			from = at + 1
		}
		to := decls[from+m.Intn(len(decls)-from)]
		a := api.Atom{Rel: to.Name, Args: []api.Expr{word(i), word(i + 1)}, At: m.Intn(1 << 16)}
		c.Body = append(c.Body, api.Lit{Kind: api.LAtom, Atom: a, At: m.Intn(1 << 16)})
	}
	m.Shuffle(len(c.Body), func(i, k int) { c.Body[i], c.Body[k] = c.Body[k], c.Body[i] })
	if m.one(3) {
		l := api.Lit{Kind: api.LCmp, Op: m.word("=", "!=", "<", "<="), L: word(m.Intn(steps + 1)), R: word(m.Intn(steps + 1)), At: m.Intn(1 << 16)}
		if m.one(2) {
			l.L = m.expr(api.EOp, 0, m.word("/", "%"), l.L, m.expr(api.EOp, 0, "-", l.R, m.literal(false)))
		}
		c.Body = slices.Insert(c.Body, m.Intn(len(c.Body)+1), l)
	}
	if m.one(5) {
		slices.Reverse(c.Head.Args)
	}
	if m.one(6) {
		c.Head.Args[m.Intn(2)] = m.literal(false)
	}
	return c
}

// either: a program of one of these kinds.
func (m chance) either() api.Prog {
	if m.one(2) {
		return m.paths()
	}
	return m.prog()
}

// more: the program with one more Clause, if one comes that Check takes.
func (m chance) more(p api.Prog, clause func() api.Clause) api.Prog {
	for range 8 {
		q := p
		q.Clauses = append(slices.Clone(p.Clauses), clause())
		if rules.Check(q).Why == api.OK {
			return q
		}
	}
	return p
}

// wrong: a program with something that may not be, or that is not small.
func (m chance) wrong(p api.Prog) api.Prog {
	p = roomy(p)
	d := &p.Decls[m.Intn(len(p.Decls))]
	switch m.Intn(8) {
	case 0:
		p.Decls = append(p.Decls, *d)
	case 1:
		p.Inits = []api.Init{{Name: "i"}}
	case 2:
		p.Comps = []api.Comp{{Name: "C", Body: p}}
	case 3:
		d.Cols = append(d.Cols, api.Field{Name: "more", Type: "number"})
	case 4:
		for i := range 64 {
			p.Decls = append(p.Decls, api.Decl{Name: "more" + strconv.Itoa(i)})
		}
	case 5:
		d.Name += "."
	default:
		if len(p.Clauses) > 0 {
			c := &p.Clauses[m.Intn(len(p.Clauses))]
			c.Body = append(c.Body, slices.Repeat([]api.Lit{{Kind: m.Intn(5), Atom: c.Head, Op: "<"}}, 1+m.Intn(2)*64)...)
		}
	}
	return p
}

// large: a program with some parts again and again, so that it is hardly small, or hardly not.
func (m chance) large(p api.Prog) api.Prog {
	if len(p.Clauses) == 0 {
		return p
	}
	p = roomy(p)
	c := &p.Clauses[m.Intn(len(p.Clauses))]
	switch m.Intn(3) {
	case 0:
		for range 1 + m.Intn(500) {
			p.Clauses = append(p.Clauses, p.Clauses[m.Intn(len(p.Clauses))])
		}
	case 1:
		if len(c.Body) > 0 {
			l := c.Body[m.Intn(len(c.Body))]
			c.Body = slices.Concat(c.Body, slices.Repeat([]api.Lit{l}, m.Intn(64)))
		}
	case 2:
		for i := range m.Intn(64) {
			own := api.Atom{Rel: "more" + strconv.Itoa(i)}
			p.Decls = append(p.Decls, api.Decl{Name: own.Rel})
			if !m.one(4) {
				p.Clauses = append(p.Clauses, api.Clause{Head: own, Body: []api.Lit{{Kind: api.LAtom, Atom: own}}})
			}
		}
	}
	return p
}

// value: a value of a type.
func (m chance) value(kind string) api.Val {
	switch {
	case kind == "symbol":
		return api.Val{Kind: api.Sym, S: m.word("a", "b", "1")}
	case kind == "T" && m.one(2):
		return api.Val{Kind: api.Con, S: "Node", Args: []api.Val{m.value("number"), m.value("T")}}
	case kind == "T":
		return api.Val{Kind: api.Con, S: "Leaf"}
	}
	return numeral(m.Intn(5))
}

// facts: some of each input, in any order.
func (m chance) facts(p api.Prog) []api.Fact {
	var all []api.Fact
	for _, d := range p.Decls {
		for range m.Intn(8) {
			f := api.Fact{Rel: d.Name}
			for _, col := range d.Cols {
				f.Args = append(f.Args, m.value(col.Type))
			}
			if d.Input {
				all = append(all, f)
			}
		}
	}
	m.Shuffle(len(all), func(i, k int) { all[i], all[k] = all[k], all[i] })
	return all
}

// shown: a program as a text.
func shown(p api.Prog) string {
	text, _ := show.Show(api.Prog{Types: p.Types, Decls: p.Decls})
	for _, c := range p.Clauses {
		line, _ := show.Show(api.Prog{Clauses: []api.Clause{c}})
		text += line
	}
	return text
}

// tally: how often each was met.
type tally map[string]int

// enough: each of these was met so often.
func (n tally) enough(t *testing.T, least int, names ...string) {
	t.Helper()
	for _, name := range names {
		if n[name] < least {
			t.Errorf("%s: met %d times, too few to tell; all: %v", name, n[name], n)
		}
	}
}
