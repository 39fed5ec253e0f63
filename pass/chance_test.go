package pass

import (
	"math/rand"
	"slices"
	"strconv"

	"vestry/api"
	"vestry/rules"
)

// chance makes programs by chance.
type chance struct{ *rand.Rand }

func newChance(seed int64) chance { return chance{rand.New(rand.NewSource(seed))} }

func (m chance) some(n int) bool { return m.Intn(n) == 0 }

func (m chance) pick(from ...string) string { return from[m.Intn(len(from))] }

func (m chance) expr(kind int, text string, kids ...api.Expr) api.Expr {
	return api.Expr{Kind: kind, S: text, Kids: kids, At: m.Int()}
}

// scene: a clause that is made, with its variables so far, by their types.
type scene struct {
	chance
	decls []api.Decl
	known map[string][]string
	words []string
}

// fresh: a variable that has no type yet, if there is a word left; words that new variables could have are among them.
func (s *scene) fresh(t string) api.Expr {
	if len(s.words) == 0 {
		return s.expr(api.EAny, "")
	}
	i := s.Intn(len(s.words))
	word := s.words[i]
	s.words = slices.Delete(s.words, i, i+1)
	s.known[t] = append(s.known[t], word)
	return s.expr(api.EVar, word)
}

// value: a value of a type, or of one near it.
func (s *scene) value(t string, deep int) api.Expr {
	if t != "symbol" && t != "T" && s.some(2) {
		t = s.pick("number", "A", "B", "C")
	}
	switch {
	case len(s.known[t]) > 0 && !s.some(4):
		return s.expr(api.EVar, s.pick(s.known[t]...))
	case t == "symbol":
		return s.expr(api.EText, s.pick("a", "v1"))
	case t == "T" && (deep == 0 || s.some(2)):
		return s.expr(api.ECon, "Leaf")
	case t == "T":
		return s.expr(api.ECon, "Node", s.value("number", deep-1), s.value(t, deep-1))
	case deep == 0 || s.some(2):
		x := s.expr(api.ENum, "")
		x.N = s.Intn(5) - 1
		return x
	}
	return s.expr(api.EOp, s.pick("+", "-", "*", "/", "%"), s.value("number", deep-1), s.value("number", deep-1))
}

func (s *scene) pattern(t string, deep int) api.Expr {
	switch {
	case s.some(6):
		return s.expr(api.EAny, "")
	case s.some(2):
		return s.fresh(t)
	case t == "T" && deep > 0 && s.some(2):
		return s.expr(api.ECon, "Node", s.pattern("number", deep-1), s.pattern(t, deep-1))
	}
	return s.value(t, deep)
}

// variable: a variable, if there is one of the type.
func (s *scene) variable(t string, deep int) api.Expr {
	if len(s.known[t]) > 0 {
		return s.expr(api.EVar, s.pick(s.known[t]...))
	}
	return s.value(t, deep)
}

func (s *scene) atom(d api.Decl, argument func(t string, deep int) api.Expr) api.Atom {
	a := api.Atom{Rel: d.Name, At: s.Int()}
	for _, f := range d.Cols {
		a.Args = append(a.Args, argument(f.Type, 2))
	}
	return a
}

// relation: one of those behind a place mostly, so that not all hang on themselves.
func (s *scene) relation(from int) api.Decl {
	if from < len(s.decls) && !s.some(12) {
		return s.decls[from+s.Intn(len(s.decls)-from)]
	}
	return s.decls[s.Intn(len(s.decls))]
}

func (s *scene) lit(from int) api.Lit {
	t := s.pick("number", "number", "symbol", "T")
	l := api.Lit{At: s.Int()}
	switch s.Intn(10) {
	case 0:
		l.Kind, l.Atom = api.LNot, s.atom(s.relation(from), s.value)
	case 1:
		l.Kind, l.Op, l.L, l.R = api.LCmp, s.pick("=", "!="), s.value(t, 2), s.value(t, 2)
	case 2:
		l.Kind, l.Op, l.L, l.R = api.LCmp, s.pick("<", "<=", ">", ">="), s.value("number", 2), s.value("number", 2)
	case 3:
		l.Kind, l.Op, l.L = api.LCmp, "=", s.value(t, 2)
		l.R = s.fresh(t)
		if s.some(2) {
			l.L, l.R = l.R, l.L
		}
	default:
		l.Kind, l.Atom = api.LAtom, s.atom(s.relation(from), s.pattern)
	}
	return l
}

// clause: a Clause of a relation, by its place.
func (m chance) clause(decls []api.Decl, at int) api.Clause {
	s := &scene{chance: m, decls: decls, known: map[string][]string{}, words: []string{"x", "y", "z", "v1", "v2", "v3", "v5", "v10", "v01", "w"}}
	c := api.Clause{At: m.Int()}
	if m.some(3) {
		return s.alias(at, c)
	}
	lits := m.Intn(4)
	if m.some(8) {
		lits = 5 + m.Intn(12)
	}
	for range lits {
		c.Body = append(c.Body, s.lit(at+1))
	}
	argument := s.value
	if !m.some(4) {
		argument = s.variable
	}
	c.Head = s.atom(decls[at], argument)
	return c
}

// alias: a Clause that is an alias's, or nearly one's.
func (s *scene) alias(at int, c api.Clause) api.Clause {
	a := s.atom(s.relation(at+1), func(t string, deep int) api.Expr { return s.fresh(t) })
	c.Head = api.Atom{Rel: s.decls[at].Name, At: s.Int()}
	for _, x := range a.Args {
		x.At = s.Int()
		c.Head.Args = append(c.Head.Args, x)
	}
	if s.some(6) {
		slices.Reverse(c.Head.Args)
	}
	c.Body = []api.Lit{{Kind: api.LAtom, Atom: a, At: s.Int()}}
	if s.some(3) {
		c.Body = append(c.Body, s.lit(at+1))
	}
	return c
}

// decls: relations of few columns, mostly of numbers; from outputs down to inputs, whose types are lower.
func (m chance) decls() []api.Decl {
	kinds := []string{"number", "number", "number", "A", "B", "symbol", "T"}
	low := []string{"A", "B", "C", "number", "symbol", "T"}
	if m.some(2) {
		kinds, low = []string{"number"}, []string{"A", "B", "C", "number"}
	}
	n := 3 + m.Intn(6)
	var decls []api.Decl
	for at, i := range m.Perm(n) {
		d := api.Decl{Name: m.pick("r", "a.b") + strconv.Itoa(i), Input: at > 1 && m.some(n-at), Output: at < 2 && m.some(at+1) || m.some(9), At: m.Int()}
		from := kinds
		if at > n/2 {
			from = low
		}
		for k := range m.Intn(3) {
			d.Cols = append(d.Cols, api.Field{Name: strconv.Itoa(k), Type: m.pick(from...)})
		}
		decls = append(decls, d)
	}
	return decls
}

// prog: a program that is taken, in which many relations have one Clause.
func (m chance) prog() api.Prog {
	fields := []api.Field{{Name: "v", Type: "number"}, {Name: "l", Type: "T"}}
	ranked := m.decls()
	p := api.Prog{
		Types: []api.TypeDecl{
			{Name: "A", Sub: "number", At: m.Int()},
			{Name: "C", Sub: "A", At: m.Int()},
			{Name: "T", Ctors: []api.Ctor{{Name: "Leaf"}, {Name: "Node", Fields: fields}}, At: m.Int()},
			{Name: "B", Sub: "number", At: m.Int()},
		},
		Decls: slices.Clone(ranked),
	}
	for at, d := range ranked {
		clauses := 1 + max(0, m.Intn(4)-2)
		if d.Output {
			clauses += 2
		}
		for range clauses {
			p = m.more(p, func() api.Clause { return m.clause(ranked, at) })
		}
	}
	return m.shuffled(p)
}

// shuffled: the program with its Decls and Clauses in another order.
func (m chance) shuffled(p api.Prog) api.Prog {
	m.Shuffle(len(p.Decls), func(i, k int) { p.Decls[i], p.Decls[k] = p.Decls[k], p.Decls[i] })
	m.Shuffle(len(p.Clauses), func(i, k int) { p.Clauses[i], p.Clauses[k] = p.Clauses[k], p.Clauses[i] })
	return p
}

// more: the program with one more Clause, if one comes that Check takes.
func (m chance) more(p api.Prog, clause func() api.Clause) api.Prog {
	for range 6 {
		q := p
		q.Clauses = append(slices.Clone(p.Clauses), clause())
		if rules.Check(q).Why == api.OK {
			return q
		}
	}
	return p
}

// either: a program or a knot.
func (m chance) either() api.Prog {
	if m.some(2) {
		return m.prog()
	}
	return m.knot()
}

// knot: a program that is taken, of relations of one column or none, in which much can give way, and much is kept from it by types, by rings and by other Clauses.
func (m chance) knot() api.Prog {
	p := api.Prog{Types: []api.TypeDecl{{Name: "A", Sub: "number"}, {Name: "B", Sub: "number"}}}
	n := 4 + m.Intn(7)
	for at := range n {
		d := api.Decl{Name: "r" + strconv.Itoa(at), At: m.Int()}
		if !m.some(5) {
			d.Cols = []api.Field{{Name: "c", Type: "number"}}
		}
		switch {
		case at == n-1:
			d.Input, d.Cols = true, []api.Field{{Name: "c", Type: "A"}}
		case at == n-2:
			d.Input, d.Cols = true, []api.Field{{Name: "c", Type: "B"}}
		default:
			d.Output = at == 0 || m.some(6)
		}
		p.Decls = append(p.Decls, d)
	}
	ranked := slices.Clone(p.Decls)
	for at, d := range ranked[:n-2] {
		clauses := 1
		if d.Output || m.some(9) {
			clauses += 1 + m.Intn(2)
		}
		for range clauses {
			p = m.more(p, func() api.Clause { return m.knotted(ranked, at) })
		}
	}
	return m.shuffled(p)
}

// knotted: a Clause of a knot.
func (m chance) knotted(ranked []api.Decl, at int) api.Clause {
	variable := func(word string) []api.Expr { return []api.Expr{m.expr(api.EVar, word)} }
	atom := func(d api.Decl, args []api.Expr) api.Atom {
		return api.Atom{Rel: d.Name, Args: args[:len(d.Cols)], At: m.Int()}
	}
	c := api.Clause{At: m.Int()}
	add := func(kind int, d api.Decl, args []api.Expr) {
		c.Body = append(c.Body, api.Lit{Kind: kind, Atom: atom(d, args), At: m.Int()})
	}
	lower := func() api.Decl { return ranked[min(at+1+m.Intn(4), at+1+m.Intn(len(ranked)-at-1))] }
	word := m.pick("x", "y", "v1", "v2")
	switch m.Intn(8) {
	case 0, 1, 2:
		add(api.LAtom, lower(), variable(word))
	case 3:
		add(api.LAtom, lower(), variable("z"))
		x, one := m.expr(api.EVar, "z"), m.expr(api.ENum, "")
		c.Body = append(c.Body, api.Lit{Kind: api.LCmp, Op: "=", L: m.expr(api.EVar, word), R: m.expr(api.EOp, "+", x, one), At: m.Int()})
	case 4:
		add(api.LAtom, lower(), variable(word))
		add(api.LAtom, lower(), variable(word))
	case 5:
		add(api.LAtom, ranked[at], variable("z"))
		add(api.LAtom, lower(), variable(word))
	case 6:
		add(api.LAtom, lower(), variable(word))
		add(api.LNot, lower(), variable(word))
	}
	if m.some(5) {
		add(api.LAtom, lower(), []api.Expr{m.expr(m.Intn(3)+api.ENum, "")})
	}
	for m.some(6) {
		c.Body = append(c.Body, slices.Repeat(c.Body[:min(1, len(c.Body))], m.Intn(14))...)
	}
	c.Head = atom(ranked[at], variable(word))
	return c
}
