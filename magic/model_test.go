package magic

import (
	"maps"
	"slices"
	"testing"

	"vestry/api"
	"vestry/num"
	"vestry/rules"
	"vestry/term"
)

// The model, by the words of chapter 13, without heights.

// What becomes of a program over facts.
const (
	isThere  = "there"
	isLarge  = "too large"
	isFaulty = "faulty"
)

// env: the values that variables have so far.
type env map[string]api.Val

// tuple: a fact's values as one.
func tuple(args []api.Val) api.Val { return api.Val{Kind: api.Con, S: "fact", Args: args} }

// finder: the facts so far, of each relation.
type finder struct {
	facts  map[string][]api.Val
	met    map[string]bool
	ways   int
	faulty bool
}

func (m *finder) has(rel string, fact api.Val) bool { return m.met[rel+term.Text(fact)] }

func (m *finder) put(rel string, fact api.Val) bool {
	if m.has(rel, fact) {
		return false
	}
	m.met[rel+term.Text(fact)] = true
	m.facts[rel] = append(m.facts[rel], fact)
	return true
}

// value: an expression's value; where it has none, false, and that is a fault.
func (m *finder) value(v env, x api.Expr) (api.Val, bool) {
	switch x.Kind {
	case api.EVar:
		return v[x.S], true
	case api.ENum:
		return numeral(x.N), true
	case api.EText:
		return symbol(x.S), true
	}
	made := made(x.S)
	for _, kid := range x.Kids {
		one, there := m.value(v, kid)
		if !there {
			return api.Val{}, false
		}
		made.Args = append(made.Args, one)
	}
	there := term.Right(made)
	if x.Kind == api.EOp {
		n, e := num.Op(x.S, made.Args[0].N, made.Args[1].N)
		made, there = numeral(n), e == api.OK
	}
	m.faulty = m.faulty || !there
	return made, there
}

// values: those of an atom's Args as one.
func (m *finder) values(v env, a api.Atom) (api.Val, bool) {
	return m.value(v, api.Expr{Kind: api.ECon, S: "fact", Kids: a.Args})
}

// matches: whether a value is what a pattern says; variables get values.
func (m *finder) matches(v env, x api.Expr, is api.Val) bool {
	_, bound := v[x.S]
	switch {
	case x.Kind == api.EAny:
		return true
	case x.Kind == api.EVar && !bound:
		v[x.S] = is
		return true
	case x.Kind == api.ECon:
		return is.S == x.S && slices.EqualFunc(x.Kids, is.Args, func(x api.Expr, is api.Val) bool { return m.matches(v, x, is) })
	}
	want, there := m.value(v, x)
	return there && term.Same(want, is)
}

// compared: whether a comparison holds; a variable without a value gets one.
func (m *finder) compared(v env, l api.Lit) bool {
	for _, side := range [][2]api.Expr{{l.L, l.R}, {l.R, l.L}} {
		if _, bound := v[side[0].S]; side[0].Kind == api.EVar && !bound {
			value, there := m.value(v, side[1])
			v[side[0].S] = value
			return there
		}
	}
	both, there := m.values(v, api.Atom{Args: []api.Expr{l.L, l.R}})
	if !there {
		return false
	}
	left, right := both.Args[0], both.Args[1]
	if l.Op == "=" || l.Op == "!=" {
		return term.Same(left, right) == (l.Op == "=")
	}
	holds, _ := num.Cmp(l.Op, left.N, right.N)
	return holds
}

// behind: the ways in which a Lit holds behind one way in which those ahead of it do.
func (m *finder) behind(v env, l api.Lit) []env {
	var next []env
	switch l.Kind {
	case api.LAtom:
		for _, fact := range m.facts[l.Atom.Rel] {
			own := maps.Clone(v)
			if m.matches(own, api.Expr{Kind: api.ECon, S: "fact", Kids: l.Atom.Args}, fact) {
				next = append(next, own)
			}
		}
	case api.LNot:
		if fact, there := m.values(v, l.Atom); there && !m.has(l.Atom.Rel, fact) {
			next = append(next, v)
		}
	case api.LCmp:
		if m.compared(v, l) {
			next = append(next, v)
		}
	}
	return next
}

// heads: the facts that a Clause gives; some of them, if there are too many ways.
func (m *finder) heads(c api.Clause) []api.Val {
	all := []env{{}}
	m.ways++
	for _, l := range c.Body {
		var next []env
		for _, v := range all {
			if m.ways+len(next) <= api.MaxWork {
				next = append(next, m.behind(v, l)...)
			}
		}
		all = next
		m.ways += len(all)
	}
	var facts []api.Val
	for _, v := range all {
		if fact, there := m.values(v, c.Head); there {
			facts = append(facts, fact)
		}
	}
	return facts
}

// stratum: all facts of a stratum's Clauses.
func (m *finder) stratum(clauses []api.Clause) string {
	for turned := true; turned; {
		turned, m.ways, m.faulty = false, 0, false
		found := make([][]api.Val, len(clauses))
		for i, c := range clauses {
			found[i] = m.heads(c)
		}
		if m.ways > api.MaxWork {
			return isLarge
		}
		for i, c := range clauses {
			for _, fact := range found[i] {
				turned = m.put(c.Head.Rel, fact) || turned
			}
		}
		if len(m.met) > api.MaxFacts {
			return isLarge
		}
	}
	if m.faulty {
		return isFaulty
	}
	return isThere
}

// tableOf: the table of a relation of a program over those facts that may be handed in to it, and what becomes of the program.
func tableOf(p api.Prog, given []api.Fact, rel string) (api.Table, string) {
	m := &finder{facts: map[string][]api.Val{}, met: map[string]bool{}}
	for _, f := range given {
		if slices.ContainsFunc(p.Decls, func(d api.Decl) bool { return d.Input && d.Name == f.Rel }) {
			m.put(f.Rel, tuple(f.Args))
		}
	}
	strata, _ := rules.Strata(p)
	for _, row := range strata {
		var own []api.Clause
		for _, c := range p.Clauses {
			if slices.Contains(row, c.Head.Rel) {
				own = append(own, c)
			}
		}
		if what := m.stratum(own); what != isThere {
			return api.Table{}, what
		}
	}
	slices.SortFunc(m.facts[rel], term.Order)
	t := api.Table{Rel: rel}
	for _, fact := range m.facts[rel] {
		t.Rows = append(t.Rows, api.Row{Args: fact.Args})
	}
	return t, isThere
}

// output: the name of a program's output.
func output(p api.Prog) string {
	return p.Decls[slices.IndexFunc(p.Decls, func(d api.Decl) bool { return d.Output })].Name
}

// P15.3: where a program has a model over facts, the turned one has one, unless that is too large, and the question has the same answer.
func TestMeaningByChance(t *testing.T) {
	n := tally{}
	for seed := range int64(4000) {
		m := newChance(seed)
		p := m.either()
		q := m.question(p)
		turned, is := Turn(p, q)
		given := m.facts(p)
		whole, what := tableOf(p, given, q.Rel)
		if !is || what != isThere {
			continue
		}
		found, what := tableOf(turned, given, output(turned))
		if what == isLarge {
			continue
		}
		want, got := Answer(q, whole), Answer(q, found)
		if what != isThere || !equal(got, want) {
			t.Fatalf("%+v of\n%s\nover %+v is answered (%s)\n%+v\nof\n%s\nwant\n%+v", q, shown(p), given, what, got, shown(turned), want)
		}
		n["rows"] += len(want.Rows)
		n["answers"] += min(1, len(want.Rows))
		n["empty answers"] += 1 - min(1, len(want.Rows))
		n["of less than the whole"] += min(1, len(whole.Rows)-len(found.Rows))
	}
	n.enough(t, 1000, "rows", "answers", "empty answers", "of less than the whole")
}

// P15.3: answers of a way through edges, written down.
func TestMeaning(t *testing.T) {
	p := parsed(t, edges)
	var given []api.Fact
	for _, e := range [][2]int{{1, 2}, {2, 3}, {3, 1}, {4, 5}, {5, 4}, {6, 1}, {7, 7}} {
		given = append(given, api.Fact{Rel: "e", Args: []api.Val{numeral(e[0]), numeral(e[1])}})
	}
	for text, want := range map[string][][2]int{
		"p(1, x)": {{1, 1}, {1, 2}, {1, 3}},
		"p(x, 1)": {{1, 1}, {2, 1}, {3, 1}, {6, 1}},
		"p(6, 4)": nil,
		"p(6, 2)": {{6, 2}},
		"p(x, 8)": nil,
		"p(7, _)": {{7, 7}},
		"p(4, x)": {{4, 4}, {4, 5}},
	} {
		q := atom(t, text)
		turned, _ := Turn(p, q)
		found, what := tableOf(turned, given, output(turned))
		got := Answer(q, found)
		ok := got.Rel == "p" && len(got.Rows) == len(want) && what == isThere
		for i := range min(len(got.Rows), len(want)) {
			ok = ok && equal(got.Rows[i].Args, []api.Val{numeral(want[i][0]), numeral(want[i][1])})
		}
		if !ok {
			t.Errorf("%s (%s): %+v, want %v", text, what, got, want)
		}
	}
}
