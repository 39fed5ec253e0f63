package lower

import "vestry/api"

// scope is a clause as it is lowered, Lit by Lit.
type scope struct {
	*maker
	registers map[string]int // of each variable that has one
	next      int            // the first register that is new
	around    func(innermost api.RNode) api.RNode
}

// none is the place of no Lit.
const none = -1

// once lowers a clause that is done once.
func (m *maker) once(c api.Clause) api.RNode {
	return m.clause(c, none, func(s *scope) api.RNode {
		return s.put(c.Head, whole)
	})
}

// turn lowers a recursive clause that is done in each round, with the facts of the round before for one of its Lits.
func (m *maker) turn(c api.Clause, at int) api.RNode {
	return m.clause(c, at, func(s *scope) api.RNode {
		s.not(c.Head)
		return s.put(c.Head, coming)
	})
}

// clause lowers a clause; the nodes of its Body are put around what comes innermost. Behind the limit there is no need to go on, and no memory might have room for all that would come: a node of no Kind stands for it, which may not be.
func (m *maker) clause(c api.Clause, at int, innermost func(s *scope) api.RNode) api.RNode {
	if m.left < 0 {
		return api.RNode{}
	}
	s := &scope{
		maker:     m,
		registers: map[string]int{},
		around:    func(innermost api.RNode) api.RNode { return innermost },
	}
	for i, l := range c.Body {
		s.lit(l, i == at)
	}
	n := innermost(s)
	m.regs = max(m.regs, s.next)
	return s.around(n)
}

// within puts a node within those so far, around what comes innermost.
func (s *scope) within(n api.RNode) {
	s.left--
	outer := s.around
	s.around = func(innermost api.RNode) api.RNode {
		n.Kids = []api.RNode{innermost}
		return outer(n)
	}
}

// fresh are so many new registers: the first one.
func (s *scope) fresh(count int) int {
	first := s.next
	s.next += count
	return first
}

// open tells whether an expression is a variable without a register.
func (s *scope) open(x api.Expr) bool {
	_, there := s.registers[x.S]
	return x.Kind == api.EVar && !there
}

// lit lowers a Lit; an LAtom may look among the facts of the round before alone.
func (s *scope) lit(l api.Lit, late bool) {
	switch {
	case l.Kind == api.LNot:
		s.not(l.Atom)
	case l.Kind == api.LCmp:
		s.comparison(l)
	case late:
		s.scan(l.Atom, latest)
	default:
		s.scan(l.Atom, whole)
	}
}

// scan goes over facts, and looks at each, column by column.
func (s *scope) scan(a api.Atom, has int) {
	from := s.fresh(len(a.Args))
	s.within(api.RNode{Kind: api.RScan, Rel: s.numbers[part{a.Rel, has}], From: from})
	s.match(a.Args, from)
}

// match looks whether registers from that one on are what patterns say.
func (s *scope) match(patterns []api.Expr, from int) {
	for i, x := range patterns {
		s.pattern(x, from+i)
	}
}

func (s *scope) pattern(x api.Expr, register int) {
	switch {
	case x.Kind == api.EAny:
	case s.open(x):
		s.registers[x.S] = register
	case x.Kind == api.ECon:
		from := s.fresh(len(x.Kids))
		s.within(api.RNode{Kind: api.RMatch, N: register, S: x.S, Other: len(x.Kids), From: from})
		s.match(x.Kids, from)
	default:
		s.compare("=", asked(register), s.expr(x))
	}
}

// comparison lowers a comparison, which may give a variable its value.
func (s *scope) comparison(l api.Lit) {
	switch {
	case l.Op == "=" && s.open(l.L):
		s.let(l.L.S, l.R)
	case l.Op == "=" && s.open(l.R):
		s.let(l.R.S, l.L)
	default:
		s.compare(l.Op, s.expr(l.L), s.expr(l.R))
	}
}

func (s *scope) let(name string, x api.Expr) {
	value := s.expr(x)
	register := s.fresh(1)
	s.within(api.RNode{Kind: api.RLet, From: register, L: value})
	s.registers[name] = register
}

func (s *scope) compare(op string, left, right api.RExpr) {
	s.within(api.RNode{Kind: api.RCmp, Op: op, L: left, R: right})
}

// not asks whether a fact has not come so far.
func (s *scope) not(a api.Atom) {
	s.within(api.RNode{Kind: api.RNot, Rel: s.numbers[part{a.Rel, whole}], Exprs: s.exprs(a.Args)})
}

// put is the node that puts a fact in.
func (s *scope) put(a api.Atom, has int) api.RNode {
	return api.RNode{Kind: api.RPut, Rel: s.numbers[part{a.Rel, has}], Exprs: s.exprs(a.Args)}
}
