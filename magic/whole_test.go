package magic

import (
	"slices"
	"strings"
	"testing"

	"vestry/api"
	"vestry/rules"
)

// The document's words, done one by one, however often that looks at the same thing.

func wantQuestion(p api.Prog, q api.Atom) bool {
	is := false
	for _, d := range p.Decls {
		is = is || d.Name == q.Rel && len(d.Cols) == len(q.Args)
	}
	for i, x := range q.Args {
		is = is && slices.Contains([]int{api.ENum, api.EText, api.EVar, api.EAny}, x.Kind)
		for _, y := range q.Args[:i] {
			is = is && !(x.Kind == api.EVar && y.Kind == api.EVar && x.S == y.S)
		}
	}
	return is
}

// words: a program and a question of it.
type words struct {
	p api.Prog
	q api.Atom
}

func (w words) inCone(name string) bool { return name == w.q.Rel || rules.Hangs(w.p, w.q.Rel, name) }

// isDerived: of relations of the cone.
func (w words) isDerived(name string) bool {
	return slices.ContainsFunc(w.p.Clauses, func(c api.Clause) bool { return c.Head.Rel == name })
}

func (w words) isOpen(name string, col int) bool {
	return !slices.ContainsFunc(w.p.Clauses, func(c api.Clause) bool {
		return c.Head.Rel == name && !slices.Contains([]int{api.EVar, api.ENum, api.EText}, c.Head.Args[col].Kind)
	})
}

func (w words) canTurn() bool {
	if !w.isDerived(w.q.Rel) {
		return false
	}
	for _, d := range w.p.Decls {
		if w.inCone(d.Name) && w.isDerived(d.Name) && d.Input {
			return false
		}
	}
	for _, c := range w.p.Clauses {
		for _, l := range c.Body {
			if w.inCone(c.Head.Rel) && l.Kind == api.LNot {
				return false
			}
		}
	}
	return true
}

// pattern: the letters of an atom, where some words are bound.
func (w words) pattern(a api.Atom, bound []string) string {
	letters := ""
	for i, x := range a.Args {
		given := x.Kind == api.ENum || x.Kind == api.EText || x.Kind == api.EVar && slices.Contains(bound, x.S)
		if w.isOpen(a.Rel, i) && given {
			letters += "b"
		} else {
			letters += "f"
		}
	}
	return letters
}

// atBound: an atom's Args at the `b`s of a pattern.
func atBound(a api.Atom, pattern string) []api.Expr {
	var args []api.Expr
	for i, letter := range pattern {
		if letter == 'b' {
			args = append(args, a.Args[i])
		}
	}
	return args
}

// wordsOf: the words of the variables of patterns.
func wordsOf(list []api.Expr) []string {
	var all []string
	for _, x := range list {
		if x.Kind == api.EVar {
			all = append(all, x.S)
		}
		all = append(all, wordsOf(x.Kids)...)
	}
	return all
}

// clauses: what a Clause becomes for a pattern of its head.
func (w words) clauses(c api.Clause, pattern string) []api.Clause {
	asks := api.Atom{Rel: c.Head.Rel + ".m_" + pattern, Args: atBound(c.Head, pattern), At: c.At}
	bound := wordsOf(asks.Args)
	ahead := []api.Lit{{Kind: api.LAtom, Atom: asks, At: c.At}}
	var all []api.Clause
	for _, l := range c.Body {
		turned := l
		if l.Kind == api.LAtom && w.isDerived(l.Atom.Rel) {
			v := w.pattern(l.Atom, bound)
			all = append(all, api.Clause{
				Head: api.Atom{Rel: l.Atom.Rel + ".m_" + v, Args: atBound(l.Atom, v), At: l.Atom.At},
				Body: slices.Clone(ahead),
				At:   l.Atom.At,
			})
			turned.Atom.Rel += ".a_" + v
		}
		if l.Kind == api.LAtom {
			bound = append(bound, wordsOf(l.Atom.Args)...)
		}
		for _, side := range []api.Expr{l.L, l.R} {
			if l.Kind == api.LCmp && side.Kind == api.EVar {
				bound = append(bound, side.S)
			}
		}
		ahead = append(ahead, turned)
	}
	answers := api.Clause{Head: c.Head, Body: ahead, At: c.At}
	answers.Head.Rel += ".a_" + pattern
	return append(all, answers)
}

// program: the turned program, however large.
func (w words) program() api.Prog {
	first := w.pattern(w.q, nil)
	asks := api.Atom{Rel: w.q.Rel + ".m_" + first, Args: atBound(w.q, first), At: w.q.At}
	made := api.Prog{Types: w.p.Types, Clauses: []api.Clause{{Head: asks, At: w.q.At}}}
	for _, d := range w.p.Decls {
		if w.inCone(d.Name) && !w.isDerived(d.Name) {
			d.Output = false
			made.Decls = append(made.Decls, d)
		}
	}
	pairs := [][2]string{{w.q.Rel, first}}
	for at := 0; at < len(pairs); at++ {
		rel, pattern := pairs[at][0], pairs[at][1]
		for _, d := range w.p.Decls {
			if d.Name == rel {
				answers := api.Decl{Name: rel + ".a_" + pattern, Cols: d.Cols, Output: at == 0, At: d.At}
				asks := api.Decl{Name: rel + ".m_" + pattern, At: d.At}
				for i, letter := range pattern {
					if letter == 'b' {
						asks.Cols = append(asks.Cols, d.Cols[i])
					}
				}
				made.Decls = append(made.Decls, answers, asks)
			}
		}
		for _, c := range w.p.Clauses {
			if c.Head.Rel != rel {
				continue
			}
			for _, one := range w.clauses(c, pattern) {
				made.Clauses = append(made.Clauses, one)
				if name, v, asks := strings.Cut(one.Head.Rel, ".m_"); asks && !slices.Contains(pairs, [2]string{name, v}) {
					pairs = append(pairs, [2]string{name, v})
				}
			}
		}
	}
	return made
}

// tally counts what was met.
type tally map[string]int

// wantTurn: what Turn answers, by the words.
func (n tally) wantTurn(p api.Prog, q api.Atom) (api.Prog, bool) {
	w := words{p, q}
	switch {
	case !wantQuestion(p, q):
		n["no question"]++
		return p, false
	case rules.Check(p).Why != api.OK:
		n["not taken"]++
		return p, false
	case slices.ContainsFunc(p.Decls, func(d api.Decl) bool { return strings.Contains(d.Name, ".") }):
		n["a point"]++
		return p, false
	case !w.canTurn():
		n["can't be turned"]++
		return p, false
	}
	made := w.program()
	if len(made.Decls)+len(made.Clauses) > 96 {
		n["too many"]++
		return p, false
	}
	if fault := rules.Check(made); fault.Why != api.OK {
		n[fault.Why.Error()]++
		return p, false
	}
	n["turned"]++
	met := map[string]int{}
	for _, d := range made.Decls {
		if name, _, pair := strings.Cut(d.Name, ".m_"); pair {
			met[name]++
			n["pairs"]++
			if met[name] == 2 {
				n["several patterns"]++
			}
		}
	}
	return made, true
}

// enough: each of these was met so often.
func (n tally) enough(t *testing.T, least int, names ...string) {
	t.Helper()
	for _, name := range names {
		if n[name] < least {
			t.Errorf("%s: met %d times, too few to tell; all: %v", name, n[name], n)
		}
	}
}

// holds: Question and Turn answer what the document's words say.
func (n tally) holds(t *testing.T, p api.Prog, q api.Atom) (api.Prog, bool) {
	t.Helper()
	if got, want := Question(p, q), wantQuestion(p, q); got != want {
		t.Fatalf("%+v of\n%s\nis a question: %v", q, shown(p), got)
	}
	got, turned := Turn(p, q)
	want, turns := n.wantTurn(p, q)
	if turned != turns || !equal(got, want) {
		t.Fatalf("%+v of\n%s\nis (%v)\n%swant (%v)\n%s", q, shown(p), turned, shown(got), turns, shown(want))
	}
	return got, turned
}

// P15.1: programs and questions by chance have the answers that the document's words say.
func TestTurnByChance(t *testing.T) {
	n := tally{}
	for seed := range int64(4000) {
		m := newChance(seed)
		p := m.either()
		n.holds(t, p, m.question(p))
	}
	n.enough(t, 100, "can't be turned", "error 13", "error 17")
	n.enough(t, 1000, "turned")
	n.enough(t, 1000, "several patterns")
	n.enough(t, 20, "too many")
}

// P15.1: so have ones with something wrong.
func TestWrongByChance(t *testing.T) {
	n := tally{}
	for seed := range int64(3000) {
		m := newChance(seed)
		p := m.either()
		p, q := m.wrong(p, m.question(p))
		n.holds(t, p, q)
	}
	n.enough(t, 100, "no question", "not taken", "a point", "can't be turned", "turned")
}

// P15.4: a turned program has one output, and is taken by Check; its inputs are the program's.
func TestTurnedByChance(t *testing.T) {
	turned := 0
	for seed := range int64(3000) {
		m := newChance(seed)
		p := m.either()
		got, is := Turn(p, m.question(p))
		if !is {
			continue
		}
		turned++
		outputs := 0
		for _, d := range got.Decls {
			if d.Output {
				outputs++
			}
			if d.Input && (d.Output || !slices.ContainsFunc(p.Decls, func(of api.Decl) bool { return of.Name == d.Name && of.Input })) {
				t.Fatalf("%s is an input of\n%s", d.Name, shown(got))
			}
		}
		if fault := rules.Check(got); outputs != 1 || fault.Why != api.OK {
			t.Fatalf("%d outputs, %v of\n%s", outputs, fault, shown(got))
		}
	}
	if turned < 500 {
		t.Errorf("%d turned", turned)
	}
}
