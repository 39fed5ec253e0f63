package pass

import (
	"reflect"
	"slices"
	"strconv"
	"testing"

	"vestry/api"
	"vestry/num"
	"vestry/rules"
	"vestry/syn"
)

// The document's words, one by one: each call looks at the whole program, and hands what comes to Check.

// wantExprs: a program with all expressions of its Clauses turned.
func wantExprs(p api.Prog, one func(api.Expr) api.Expr) api.Prog {
	exprs := func(list []api.Expr) []api.Expr {
		var all []api.Expr
		for _, x := range list {
			all = append(all, one(x))
		}
		return all
	}
	q := p
	q.Clauses = nil
	for _, c := range p.Clauses {
		c.Head.Args = exprs(c.Head.Args)
		body := c.Body
		c.Body = nil
		for _, l := range body {
			l.Atom.Args, l.L, l.R = exprs(l.Atom.Args), one(l.L), one(l.R)
			c.Body = append(c.Body, l)
		}
		q.Clauses = append(q.Clauses, c)
	}
	return q
}

func wantFolded(x api.Expr) api.Expr {
	var kids []api.Expr
	for _, kid := range x.Kids {
		kids = append(kids, wantFolded(kid))
	}
	if x.Kind == api.EOp && kids[0].Kind == api.ENum && kids[1].Kind == api.ENum {
		if n, e := num.Op(x.S, kids[0].N, kids[1].N); e == api.OK {
			return api.Expr{Kind: api.ENum, N: n, At: x.At}
		}
	}
	x.Kids = kids
	return x
}

func wantFold(p api.Prog) (api.Prog, bool) {
	q := wantExprs(p, wantFolded)
	clauses := q.Clauses
	q.Clauses = nil
	for _, c := range clauses {
		var body []api.Lit
		holds := true
		for _, l := range c.Body {
			if l.Kind != api.LCmp || l.L.Kind != api.ENum || l.R.Kind != api.ENum {
				body = append(body, l)
				continue
			}
			is, _ := num.Cmp(l.Op, l.L.N, l.R.N)
			holds = holds && is
		}
		c.Body = body
		if holds {
			q.Clauses = append(q.Clauses, c)
		}
	}
	return q, !syn.Same(p, q)
}

func wantTrim(p api.Prog) (api.Prog, bool) {
	asked := func(name string) bool {
		return slices.ContainsFunc(p.Decls, func(d api.Decl) bool {
			return d.Output && (d.Name == name || rules.Hangs(p, d.Name, name))
		})
	}
	q := p
	q.Decls, q.Clauses = nil, nil
	for _, d := range p.Decls {
		if d.Input || asked(d.Name) {
			q.Decls = append(q.Decls, d)
		}
	}
	for _, c := range p.Clauses {
		if asked(c.Head.Rel) {
			q.Clauses = append(q.Clauses, c)
		}
	}
	return q, !syn.Same(p, q)
}

// wantGiver: the Clause of a relation that may give way.
func wantGiver(p api.Prog, d api.Decl) (api.Clause, bool) {
	var own []api.Clause
	for _, c := range p.Clauses {
		if c.Head.Rel == d.Name {
			own = append(own, c)
		}
	}
	if d.Input || d.Output || rules.Hangs(p, d.Name, d.Name) || len(own) != 1 {
		return api.Clause{}, false
	}
	for i, x := range own[0].Head.Args {
		for _, y := range own[0].Head.Args[:i] {
			if x.S == y.S {
				return api.Clause{}, false
			}
		}
		if x.Kind != api.EVar {
			return api.Clause{}, false
		}
	}
	return own[0], true
}

// wantWithout: a program without a relation's Decl and its Clause, with all other Bodies turned Lit by Lit.
func wantWithout(p api.Prog, name string, one func(l api.Lit) []api.Lit) api.Prog {
	q := p
	q.Decls, q.Clauses = nil, nil
	for _, d := range p.Decls {
		if d.Name != name {
			q.Decls = append(q.Decls, d)
		}
	}
	for _, c := range p.Clauses {
		if c.Head.Rel == name {
			continue
		}
		var body []api.Lit
		for _, l := range c.Body {
			if related(l) && l.Atom.Rel == name {
				body = append(body, one(l)...)
			} else {
				body = append(body, l)
			}
		}
		c.Body = body
		q.Clauses = append(q.Clauses, c)
	}
	return q
}

// tally counts what was met.
type tally map[string]int

func (n tally) wantAlias(p api.Prog) (api.Prog, bool) {
	for _, d := range p.Decls {
		own, may := wantGiver(p, d)
		if !may || len(own.Body) != 1 || own.Body[0].Kind != api.LAtom || len(own.Head.Args) != len(own.Body[0].Atom.Args) {
			continue
		}
		same := true
		for i, x := range own.Body[0].Atom.Args {
			same = same && x.Kind == api.EVar && x.S == own.Head.Args[i].S
		}
		if !same {
			continue
		}
		q := wantWithout(p, d.Name, func(l api.Lit) []api.Lit {
			l.Atom.Rel = own.Body[0].Atom.Rel
			return []api.Lit{l}
		})
		if fault := rules.Check(q); fault.Why != api.OK {
			n["an alias that stays: "+fault.Why.Error()]++
			continue
		}
		n["an alias"]++
		return q, true
	}
	return p, false
}

// wantWords: the variables' words of a program.
func wantWords(p api.Prog) []string {
	var words []string
	var look func(x api.Expr) api.Expr
	look = func(x api.Expr) api.Expr {
		if x.Kind == api.EVar {
			words = append(words, x.S)
		}
		for _, kid := range x.Kids {
			look(kid)
		}
		return x
	}
	wantExprs(p, look)
	return words
}

func (n tally) wantInline(p api.Prog) (api.Prog, bool) {
	for _, d := range p.Decls {
		own, may := wantGiver(p, d)
		if !may || !wantPlain(p, d.Name) {
			continue
		}
		words, last := wantWords(p), 0
		next := func() string {
			for last++; slices.Contains(words, "v"+strconv.Itoa(last)); last++ {
			}
			return "v" + strconv.Itoa(last)
		}
		q := wantWithout(p, d.Name, func(l api.Lit) []api.Lit { return wantInstead(own, l.Atom, next) })
		fault := rules.Check(q)
		switch {
		case slices.ContainsFunc(q.Clauses, func(c api.Clause) bool { return len(c.Body) > api.MaxBody }):
			n["too long"]++
		case fault.Why != api.OK:
			n["one that is not inlined: "+fault.Why.Error()]++
		default:
			n["inlined"]++
			return q, true
		}
	}
	return p, false
}

// wantPlain: a relation stands in no LNot, and only with variables and `_` as Args.
func wantPlain(p api.Prog, name string) bool {
	for _, c := range p.Clauses {
		for _, l := range c.Body {
			if !related(l) || l.Atom.Rel != name {
				continue
			}
			for _, x := range l.Atom.Args {
				if x.Kind != api.EVar && x.Kind != api.EAny {
					return false
				}
			}
			if l.Kind == api.LNot {
				return false
			}
		}
	}
	return true
}

func wantInstead(own api.Clause, a api.Atom, next func() string) []api.Lit {
	for i, x := range a.Args {
		if x.Kind == api.EAny {
			a.Args = slices.Clone(a.Args)
			a.Args[i] = api.Expr{Kind: api.EVar, S: next(), At: x.At}
		}
	}
	var turn func(x api.Expr) api.Expr
	olds, news := []string{}, []string{}
	turn = func(x api.Expr) api.Expr {
		if x.Kind == api.EVar {
			for i, arg := range own.Head.Args {
				if arg.S == x.S {
					return a.Args[i]
				}
			}
			if !slices.Contains(olds, x.S) {
				olds, news = append(olds, x.S), append(news, next())
			}
			x.S = news[slices.Index(olds, x.S)]
		}
		var kids []api.Expr
		for _, kid := range x.Kids {
			kids = append(kids, turn(kid))
		}
		x.Kids = kids
		return x
	}
	own.Head.Args = slices.Clone(own.Head.Args)
	return wantExprs(api.Prog{Clauses: []api.Clause{{Body: own.Body}}}, turn).Clauses[0].Body
}

func (n tally) wantBest(p api.Prog) (api.Prog, bool) {
	start := p
	for turned, rounds := true, 0; turned; rounds++ {
		turned = false
		step := func(do call) bool {
			q, t := do(p)
			p, turned = q, turned || t
			return t
		}
		step(wantFold)
		for step(n.wantAlias) {
		}
		for step(n.wantInline) {
		}
		step(wantTrim)
		if turned {
			n["round "+strconv.Itoa(rounds)]++
		}
	}
	return p, !syn.Same(start, p)
}

// holds: all calls answer what the document's words say.
func (n tally) holds(t *testing.T, p api.Prog) {
	t.Helper()
	for _, c := range []struct {
		name      string
		got, want call
	}{{"Fold", Fold, wantFold}, {"Trim", Trim, wantTrim}, {"Alias", Alias, n.wantAlias}, {"Inline", Inline, n.wantInline}, {"Best", best, n.wantBest}} {
		got, turned := c.got(p)
		want, turns := c.want(p)
		if turned != turns || !equal(got, want) {
			t.Fatalf("%s of\n%s\nis\n%s%v, want\n%s%v", c.name, shown(p), shown(got), turned, shown(want), turns)
		}
		if turned {
			n[c.name]++
		}
	}
}

// again: a program behind a call, as long as it turns something.
func again(do call, p api.Prog) api.Prog {
	for {
		q, turned := do(p)
		if !turned {
			return q
		}
		p = q
	}
}

// steps: what Best does of aliases and Bodies at once is what comes of one step behind the other.
func steps(t *testing.T, p api.Prog) {
	t.Helper()
	for what, c := range map[string]struct {
		all pass
		one call
	}{"aliases": {aliases, Alias}, "inlines": {inlines, Inline}} {
		got, want := copied(p, 0), again(c.one, p)
		if turned := c.all(&got); !equal(got, want) || turned == equal(p, want) {
			t.Fatalf("%s of\n%s\nis\n%s%v, want\n%s", what, shown(p), shown(got), turned, shown(want))
		}
	}
}

// P14.4: a relation that a Clause kept from giving way goes when that Clause, or its own one, turned or went.
func TestSteps(t *testing.T) {
	for _, c := range []struct{ gone, text, want string }{
		{"a z", "a(x) :- e(x), x < 1, x < 2. z(). p(x) :- a(x), z()" + lits(13) + ".", "p(x) :- e(x), x < 1, x < 2" + lits(13) + "."},
		{"a z", "a(x) :- e(x), z(), x < 1. z(). p(x) :- a(x)" + lits(14) + ".", "p(x) :- e(x), x < 1" + lits(14) + "."},
		{"a b", "a(x) :- e(x), x < 1. b(x) :- f(x, _), !a(x). p(x) :- a(x).", "p(x) :- e(x), x < 1."},
		{"a b", "a(x) :- e(x), x < 1. b(x) :- e(x), a(3). p(x) :- a(x).", "p(x) :- e(x), x < 1."},
		{"a b", "a(x) :- e(x), x < 1. b(x) :- a(x)" + lits(15) + ". p(x) :- a(x).", "p(x) :- e(x), x < 1."},
		{"b", "a(x) :- e(x), x < 1. b(x) :- e(x), !a(x). p(x) :- a(x), b(x).", "a(x) :- e(x), x < 1. p(x) :- a(x), e(x), !a(x)."},
	} {
		p := parsed(t, world+c.text)
		inlines(&p)
		if want := parsed(t, without(c.gone)+c.want); !syn.Same(p, want) {
			t.Errorf("%s\nbecomes\n%s", c.text, shown(p))
		}
	}
}

// P14.3, P14.4: of Clauses that have too many Lits already one may go, and let others give way; two keep each other.
func TestStepsLong(t *testing.T) {
	for more, left := range map[int]int{14: 2, 15: 5} {
		p := parsed(t, world+"a(x) :- e(x), x < 1. b(x) :- e(x), !a(x). p(x) :- a(x). q(x, x) :- z(), e(x). z().")
		comparison := p.Clauses[0].Body[1:]
		p.Clauses[1].Body = append(p.Clauses[1].Body, slices.Repeat(comparison, 20)...)
		p.Clauses[3].Body = append(p.Clauses[3].Body, slices.Repeat(comparison, more)...)
		steps(t, p)
		if inlines(&p); len(p.Clauses) != left {
			t.Errorf("%d more: %d Clauses", more, len(p.Clauses))
		}
	}
}

// enough: each of these was met so often.
func (n tally) enough(t *testing.T, least int, names ...string) {
	t.Helper()
	for _, name := range names {
		if n[name] < least {
			t.Errorf("%s: met %d times, too few to tell; all: %v", name, n[name], n)
		}
	}
}

// P14.1 to P14.4: programs by chance have the answers that the document's words say.
func TestByChance(t *testing.T) {
	n := tally{}
	for seed := range int64(2500) {
		n.holds(t, newChance(seed).prog())
	}
	n.enough(t, 100, "Fold", "Trim", "Alias", "Inline", "Best", "an alias", "inlined", "too long", "round 0")
}

// P14.2 to P14.4: so have programs in which much can give way, or can't.
func TestKnotsByChance(t *testing.T) {
	n := tally{}
	for seed := range int64(4000) {
		p := newChance(seed).knot()
		n.holds(t, p)
		steps(t, p)
	}
	n.enough(t, 100, "Trim", "Alias", "Inline", "Best", "an alias", "an alias that stays: error 13", "inlined", "one that is not inlined: error 13", "one that is not inlined: error 17", "too long", "round 0")
	n.enough(t, 20, "round 1")
}

// P14.5, P14.7: what is taken is taken behind each call, with the same outputs and inputs, in order; Best of Best is Best, and nothing turns there.
func TestTakenByChance(t *testing.T) {
	for seed := range int64(3000) {
		p := newChance(seed).either()
		for i, do := range []call{Fold, Trim, Alias, Inline, best} {
			q, _ := do(p)
			if fault := rules.Check(q); fault.Why != api.OK {
				t.Fatalf("call %d of\n%s\nis not taken: %v\n%s", i, shown(p), fault, shown(q))
			}
			if !reflect.DeepEqual(faces(p), faces(q)) || !reflect.DeepEqual(p.Types, q.Types) {
				t.Fatalf("call %d of\n%s\nhas other outputs or inputs\n%s", i, shown(p), shown(q))
			}
		}
		q := Best(p)
		if again := Best(q); !equal(q, again) {
			t.Fatalf("Best of\n%s\nis\n%s\nand its Best\n%s", shown(p), shown(q), shown(again))
		}
		for i, do := range []call{Fold, Trim, Alias, Inline} {
			if _, turned := do(q); turned {
				t.Fatalf("call %d turns the Best\n%s", i, shown(q))
			}
		}
	}
}

// faces: the Decls that are inputs or outputs.
func faces(p api.Prog) []api.Decl {
	var all []api.Decl
	for _, d := range p.Decls {
		if d.Input || d.Output {
			all = append(all, d)
		}
	}
	return all
}
