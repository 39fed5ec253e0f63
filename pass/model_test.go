package pass

import (
	"maps"
	"slices"
	"strings"
	"testing"

	"vestry/api"
	"vestry/num"
	"vestry/rules"
	"vestry/syn"
	"vestry/term"
)

// The model, by the words of chapter 13, without heights.

// What becomes of a program over facts.
const (
	isThere = iota
	isLarge
	isFaulty
)

// machine: the facts so far, of each relation.
type machine struct {
	facts  map[string][][]api.Val
	met    map[string]bool
	ways   int
	faulty bool
}

func text(rel string, args []api.Val) string {
	all := []string{rel}
	for _, v := range args {
		all = append(all, term.Text(v))
	}
	return strings.Join(all, " ")
}

func (m *machine) put(rel string, args []api.Val) bool {
	name := text(rel, args)
	if m.met[name] {
		return false
	}
	m.met[name] = true
	m.facts[rel] = append(m.facts[rel], args)
	return true
}

// values: what variables are so far.
type values map[string]api.Val

// value: an expression's value; false, if it faults.
func (v values) value(x api.Expr) (api.Val, bool) {
	switch x.Kind {
	case api.EVar:
		return v[x.S], true
	case api.ENum:
		return api.Val{Kind: api.Num, N: x.N}, true
	case api.EText:
		return api.Val{Kind: api.Sym, S: x.S}, true
	}
	args, right := v.all(x.Kids)
	if !right {
		return api.Val{}, false
	}
	if x.Kind == api.EOp {
		n, e := num.Op(x.S, args[0].N, args[1].N)
		return api.Val{Kind: api.Num, N: n}, e == api.OK
	}
	made := api.Val{Kind: api.Con, S: x.S, Args: args}
	return made, term.Right(made)
}

func (v values) all(list []api.Expr) ([]api.Val, bool) {
	var all []api.Val
	for _, x := range list {
		one, right := v.value(x)
		if !right {
			return nil, false
		}
		all = append(all, one)
	}
	return all, true
}

// match: whether a value is what a pattern says; false at the end, if it faults.
func (v values) match(x api.Expr, is api.Val) (bool, bool) {
	_, bound := v[x.S]
	switch {
	case x.Kind == api.EAny:
		return true, true
	case x.Kind == api.EVar && !bound:
		v[x.S] = is
		return true, true
	case x.Kind == api.ECon:
		if is.S != x.S || len(is.Args) != len(x.Kids) {
			return false, true
		}
		return v.matchAll(x.Kids, is.Args)
	}
	want, right := v.value(x)
	return right && term.Same(want, is), right
}

func (v values) matchAll(list []api.Expr, all []api.Val) (bool, bool) {
	for i, x := range list {
		if holds, right := v.match(x, all[i]); !holds || !right {
			return false, right
		}
	}
	return true, true
}

// instances: of a Clause's Body from a Lit on; what holds at its end is handed on.
func (m *machine) instances(c api.Clause, from int, v values, found func(args []api.Val)) {
	m.ways++
	if m.ways > api.MaxWork {
		return
	}
	if from == len(c.Body) {
		args, right := v.all(c.Head.Args)
		if right {
			found(args)
		}
		m.faulty = m.faulty || !right
		return
	}
	l := c.Body[from]
	switch l.Kind {
	case api.LAtom:
		for _, fact := range m.facts[l.Atom.Rel] {
			own := maps.Clone(v)
			holds, right := own.matchAll(l.Atom.Args, fact)
			m.faulty = m.faulty || !right
			if holds {
				m.instances(c, from+1, own, found)
			}
		}
	case api.LNot:
		args, right := v.all(l.Atom.Args)
		m.faulty = m.faulty || !right
		if right && !m.met[text(l.Atom.Rel, args)] {
			m.instances(c, from+1, v, found)
		}
	case api.LCmp:
		if m.compare(l, v) {
			m.instances(c, from+1, v, found)
		}
	}
}

// compare: whether a comparison holds; it may give a variable a value.
func (m *machine) compare(l api.Lit, v values) bool {
	for _, side := range [][2]api.Expr{{l.L, l.R}, {l.R, l.L}} {
		if _, bound := v[side[0].S]; side[0].Kind == api.EVar && !bound {
			value, right := v.value(side[1])
			m.faulty = m.faulty || !right
			v[side[0].S] = value
			return right
		}
	}
	both, right := v.all([]api.Expr{l.L, l.R})
	if !right {
		m.faulty = true
		return false
	}
	switch l.Op {
	case "=":
		return term.Same(both[0], both[1])
	case "!=":
		return !term.Same(both[0], both[1])
	}
	holds, _ := num.Cmp(l.Op, both[0].N, both[1].N)
	return holds
}

// modelOf: the facts of each output, and what becomes of the program.
func modelOf(p api.Prog, given []api.Fact) (map[string][]string, int) {
	m := &machine{facts: map[string][][]api.Val{}, met: map[string]bool{}}
	for _, f := range given {
		m.put(f.Rel, f.Args)
	}
	strata, _ := rules.Strata(p)
	for _, row := range strata {
		if what := m.stratum(p, row); what != isThere {
			return nil, what
		}
	}
	outputs := map[string][]string{}
	for _, d := range p.Decls {
		if d.Output {
			outputs[d.Name] = []string{}
			for _, args := range m.facts[d.Name] {
				outputs[d.Name] = append(outputs[d.Name], text(d.Name, args))
			}
			slices.Sort(outputs[d.Name])
		}
	}
	return outputs, isThere
}

func (m *machine) stratum(p api.Prog, row []string) int {
	for turned := true; turned; {
		turned, m.ways, m.faulty = false, 0, false
		var found []api.Fact
		for _, c := range p.Clauses {
			if slices.Contains(row, c.Head.Rel) {
				m.instances(c, 0, values{}, func(args []api.Val) { found = append(found, api.Fact{Rel: c.Head.Rel, Args: args}) })
			}
		}
		if m.ways > api.MaxWork {
			return isLarge
		}
		for _, f := range found {
			turned = m.put(f.Rel, f.Args) || turned
		}
		if len(m.met) > api.MaxFacts {
			return isLarge
		}
	}
	if m.faulty {
		return isFaulty
	}
	return isThere
}

// given: facts for the inputs of a program.
func (m chance) given(p api.Prog) []api.Fact {
	var facts []api.Fact
	for _, d := range p.Decls {
		for range m.Intn(5) {
			f := api.Fact{Rel: d.Name}
			for _, col := range d.Cols {
				f.Args = append(f.Args, m.val(col.Type))
			}
			if d.Input {
				facts = append(facts, f)
			}
		}
	}
	return facts
}

func (m chance) val(t string) api.Val {
	switch {
	case t == "symbol":
		return api.Val{Kind: api.Sym, S: m.pick("a", "v1")}
	case t == "T" && m.some(2):
		return api.Val{Kind: api.Con, S: "Node", Args: []api.Val{m.val("number"), m.val("T")}}
	case t == "T":
		return api.Val{Kind: api.Con, S: "Leaf"}
	}
	return api.Val{Kind: api.Num, N: m.Intn(5) - 1}
}

// P14.6: where a program has a model, the program behind each call has one, unless that is too large, with the same facts of the outputs.
func TestMeaningByChance(t *testing.T) {
	n := tally{}
	for seed := range int64(5000) {
		m := newChance(seed)
		p := m.either()
		given := m.given(p)
		want, what := modelOf(p, given)
		if what != isThere {
			n["none"]++
			continue
		}
		for i, do := range []call{Fold, Trim, Alias, Inline, best} {
			q, turned := do(p)
			if !turned {
				continue
			}
			got, what := modelOf(q, given)
			if what == isLarge {
				n["too large"]++
				continue
			}
			if what != isThere || !maps.EqualFunc(got, want, slices.Equal[[]string]) {
				t.Fatalf("call %d of\n%s\nis\n%s\nwith the outputs %v (%d), want %v", i, shown(p), shown(q), got, what, want)
			}
			for _, facts := range want {
				n["facts"] += len(facts)
			}
			n["turned"]++
		}
	}
	n.enough(t, 500, "none", "turned", "facts")
	n.enough(t, 1, "too large")
}

// P14.6: what is inlined, folded and trimmed gives the same facts, written down.
func TestMeaning(t *testing.T) {
	p := parsed(t, world+`a(x) :- f(x, y), y > 1 + 1, !e(x). b(x) :- a(x). c(x, y) :- b(x), f(x, y), 1 < 2. c(x, y) :- b(y), e(x), 2 < 1.
		p(x) :- c(x, _), !q(x, x). q(x, y) :- c(x, z), c(y, z), x != y.`)
	number := func(rel string, args ...int) api.Fact {
		f := api.Fact{Rel: rel}
		for _, n := range args {
			f.Args = append(f.Args, api.Val{Kind: api.Num, N: n})
		}
		return f
	}
	given := []api.Fact{number("e", 1), number("f", 1, 3), number("f", 2, 3), number("f", 4, 3), number("f", 5, 2)}
	for i, do := range []call{func(p api.Prog) (api.Prog, bool) { return p, true }, Fold, Trim, Alias, Inline, best} {
		q, turned := do(p)
		got, what := modelOf(q, given)
		if strings.Join(got["p"], ", ") != "p 2, p 4" || strings.Join(got["q"], ", ") != "q 2 4, q 4 2" || what != isThere || !turned {
			t.Errorf("call %d: %v %d, of\n%s", i, got, what, shown(q))
		}
	}
	if q := Best(p); !syn.Same(q, parsed(t, without("a b c z t")+`
		p(x) :- f(x, v3), v3 > 2, !e(x), f(x, v2), !q(x, x).
		q(x, y) :- f(x, v4), v4 > 2, !e(x), f(x, z), f(y, v5), v5 > 2, !e(y), f(y, z), x != y.`)) {
		t.Errorf("Best is\n%s", shown(q))
	}
}
