package lower

import (
	"maps"
	"slices"

	"vestry/api"
	"vestry/num"
	"vestry/rules"
	"vestry/term"
)

// The model, by the words of chapter 13, without heights.

// What becomes of a program over facts.
const (
	isThere  = "there"
	isLarge  = "too large"
	isFaulty = "faulty"
)

// env: the values that variables have so far.
type env map[string]api.Val

// tuple: a fact's values as one.
func tuple(args []api.Val) api.Val { return api.Val{Kind: api.Con, S: "fact", Args: args} }

// finder: the facts so far, of each relation.
type finder struct {
	facts  map[string][]api.Val
	met    map[string]bool
	ways   int
	faulty bool
}

func (m *finder) has(rel string, fact api.Val) bool { return m.met[rel+text(fact)] }

// text: a fact's values as a text. Each for itself, since all of them as one may be too deep to be a value.
func text(fact api.Val) string {
	all := ""
	for _, v := range fact.Args {
		all += " " + term.Text(v)
	}
	return all
}

func (m *finder) put(rel string, fact api.Val) bool {
	if m.has(rel, fact) {
		return false
	}
	m.met[rel+text(fact)] = true
	m.facts[rel] = append(m.facts[rel], fact)
	return true
}

// value: an expression's value; where it has none, false, and that is a fault.
func (m *finder) value(v env, x api.Expr) (api.Val, bool) {
	switch x.Kind {
	case api.EVar:
		return v[x.S], true
	case api.ENum:
		return numeral(x.N), true
	case api.EText:
		return api.Val{Kind: api.Sym, S: x.S}, true
	}
	args, there := m.values(v, x.Kids)
	if !there {
		return api.Val{}, false
	}
	made := api.Val{Kind: api.Con, S: x.S, Args: args}
	there = term.Right(made)
	if x.Kind == api.EOp {
		n, e := num.Op(x.S, args[0].N, args[1].N)
		made, there = numeral(n), e == api.OK
	}
	m.faulty = m.faulty || !there
	return made, there
}

// values: those of expressions, up to the first one that has none.
func (m *finder) values(v env, list []api.Expr) ([]api.Val, bool) {
	var all []api.Val
	for _, x := range list {
		one, there := m.value(v, x)
		if !there {
			return nil, false
		}
		all = append(all, one)
	}
	return all, true
}

// matches: whether a value is what a pattern says; variables get values.
func (m *finder) matches(v env, x api.Expr, is api.Val) bool {
	_, bound := v[x.S]
	switch {
	case x.Kind == api.EAny:
		return true
	case x.Kind == api.EVar && !bound:
		v[x.S] = is
		return true
	case x.Kind == api.ECon:
		return is.S == x.S && m.allMatch(v, x.Kids, is.Args)
	}
	want, there := m.value(v, x)
	return there && term.Same(want, is)
}

func (m *finder) allMatch(v env, list []api.Expr, are []api.Val) bool {
	return slices.EqualFunc(list, are, func(x api.Expr, is api.Val) bool { return m.matches(v, x, is) })
}

// compared: whether a comparison holds; a variable without a value gets one.
func (m *finder) compared(v env, l api.Lit) bool {
	for _, side := range [][2]api.Expr{{l.L, l.R}, {l.R, l.L}} {
		if _, bound := v[side[0].S]; side[0].Kind == api.EVar && !bound {
			value, there := m.value(v, side[1])
			v[side[0].S] = value
			return there
		}
	}
	both, there := m.values(v, []api.Expr{l.L, l.R})
	if !there {
		return false
	}
	if l.Op == "=" || l.Op == "!=" {
		return term.Same(both[0], both[1]) == (l.Op == "=")
	}
	holds, _ := num.Cmp(l.Op, both[0].N, both[1].N)
	return holds
}

// behind: the ways in which a Lit holds behind one way in which those ahead of it do.
func (m *finder) behind(v env, l api.Lit) []env {
	var next []env
	switch l.Kind {
	case api.LAtom:
		for _, fact := range m.facts[l.Atom.Rel] {
			own := maps.Clone(v)
			if m.allMatch(own, l.Atom.Args, fact.Args) {
				next = append(next, own)
			}
		}
	case api.LNot:
		if args, there := m.values(v, l.Atom.Args); there && !m.has(l.Atom.Rel, tuple(args)) {
			next = append(next, v)
		}
	case api.LCmp:
		if m.compared(v, l) {
			next = append(next, v)
		}
	}
	return next
}

// heads: the facts that a Clause gives; some of them, if there are too many ways.
func (m *finder) heads(c api.Clause) []api.Val {
	all := []env{{}}
	m.ways++
	for _, l := range c.Body {
		var next []env
		for _, v := range all {
			if m.ways+len(next) <= api.MaxWork {
				next = append(next, m.behind(v, l)...)
			}
		}
		all = next
		m.ways += len(all)
	}
	var facts []api.Val
	for _, v := range all {
		if args, there := m.values(v, c.Head.Args); there {
			facts = append(facts, tuple(args))
		}
	}
	return facts
}

// stratum: all facts of a stratum's Clauses.
func (m *finder) stratum(clauses []api.Clause) string {
	for turned := true; turned; {
		turned, m.ways, m.faulty = false, 0, false
		found := make([][]api.Val, len(clauses))
		for i, c := range clauses {
			found[i] = m.heads(c)
		}
		if m.ways > api.MaxWork {
			return isLarge
		}
		for i, c := range clauses {
			for _, fact := range found[i] {
				turned = m.put(c.Head.Rel, fact) || turned
			}
		}
		if len(m.met) > api.MaxFacts {
			return isLarge
		}
	}
	if m.faulty {
		return isFaulty
	}
	return isThere
}

// modelOf: the facts of a program's model over those that are given, as told has them, and what becomes of the program.
func modelOf(p api.Prog, given []api.Fact) ([]string, string) {
	m := &finder{facts: map[string][]api.Val{}, met: map[string]bool{}}
	for _, f := range given {
		m.put(f.Rel, tuple(f.Args))
	}
	strata, _ := rules.Strata(p)
	for _, row := range strata {
		var own []api.Clause
		for _, c := range p.Clauses {
			if slices.Contains(row, c.Head.Rel) {
				own = append(own, c)
			}
		}
		if what := m.stratum(own); what != isThere {
			return nil, what
		}
	}
	rels := make([][][]api.Val, len(p.Decls))
	for i, d := range p.Decls {
		slices.SortFunc(m.facts[d.Name], term.Order)
		for _, fact := range m.facts[d.Name] {
			rels[i] = append(rels[i], fact.Args)
		}
	}
	return told(p, rels), isThere
}
