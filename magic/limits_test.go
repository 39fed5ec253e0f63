package magic

import (
	"slices"
	"strconv"
	"strings"
	"testing"

	"vestry/api"
)

func variable(s string) api.Expr { return api.Expr{Kind: api.EVar, S: s} }

func atomOf(rel string, args ...api.Expr) api.Atom { return api.Atom{Rel: rel, Args: args} }

// on: an LAtom.
func on(rel string, args ...api.Expr) api.Lit {
	return api.Lit{Kind: api.LAtom, Atom: atomOf(rel, args...)}
}

// rule: a Clause of a relation and its Lits.
func rule(head api.Atom, body ...api.Lit) api.Clause { return api.Clause{Head: head, Body: body} }

// name: a relation's name by a number.
func name(i int) string { return "r" + strconv.Itoa(i) }

// columns: so many columns of numbers.
func columns(n int) []api.Field {
	var cols []api.Field
	for i := range n {
		cols = append(cols, api.Field{Name: "c" + strconv.Itoa(i), Type: "number"})
	}
	return cols
}

// just: a question is turned to so many Decls and Clauses; where that is more than 96 it is not.
func just(t *testing.T, p api.Prog, q api.Atom, want int) {
	t.Helper()
	if want > api.MaxRules {
		stays(t, p, q)
		return
	}
	if got, turned := Turn(p, q); !turned || len(got.Decls)+len(got.Clauses) != want {
		t.Errorf("%v, %d Decls and %d Clauses, want %d", turned, len(got.Decls), len(got.Clauses), want)
	}
}

// P15.1: just 96 Decls and Clauses are not too many, 97 are, whatever they come from.
func TestMany(t *testing.T) {
	for n := 88; n < 96; n++ {
		p := parsed(t, ".decl p(x: number)"+strings.Repeat(" p(1).", n))
		just(t, p, atom(t, "p(x)"), n+3)
		just(t, p, atom(t, "p(1)"), n+3)
	}
	for n := 40; n < 52; n++ {
		p := api.Prog{Decls: []api.Decl{{Name: "p"}}, Clauses: []api.Clause{rule(atomOf("p"))}}
		for i := range n {
			p.Decls = append(p.Decls, api.Decl{Name: name(i), Input: i%2 == 0})
			p.Clauses = append(p.Clauses, rule(atomOf("p"), on(name(i))))
		}
		just(t, p, atomOf("p"), 2*n+4)
	}
	for n := 38; n < 46; n++ {
		p := parsed(t, ".decl q(x: number) .decl r(x: number, y: number) q(x) :- r(1, x). q(x) :- r(x, 1). q(1)."+strings.Repeat(" r(1, 2).", n))
		just(t, p, atom(t, "q(x)"), 2*n+12)
		just(t, p, atom(t, "r(x, 3)"), n+3)
	}
}

// P15.1: what a question does not need may be as much as it wants.
func TestManyOthers(t *testing.T) {
	p := parsed(t, edges)
	want, _ := Turn(p, atom(t, "p(1, x)"))
	for i := range 1 << 13 {
		p.Decls = append(p.Decls, api.Decl{Name: name(i), Cols: columns(1)})
		p.Clauses = append(p.Clauses, rule(atomOf(name(i), variable("x")), on("p", variable("x"), variable("x"))))
	}
	slices.Reverse(p.Decls)
	if got, turned := Turn(p, atom(t, "p(1, x)")); !turned || !equal(got, want) {
		t.Errorf("%v, %d Decls", turned, len(got.Decls))
	}
}

// P15.1: a name of just 64 bytes is not too long, one of 65 is, of the question's relation, and of one below it.
func TestLongNames(t *testing.T) {
	for cols := range 4 {
		for bytes := 58; bytes < 67; bytes++ {
			long := strings.Repeat("n", bytes-cols-3)
			args := slices.Repeat([]api.Expr{{Kind: api.EAny}}, cols)
			heads := slices.Repeat([]api.Expr{{Kind: api.ENum}}, cols)
			p := api.Prog{
				Decls:   []api.Decl{{Name: long, Cols: columns(cols)}, {Name: "p"}},
				Clauses: []api.Clause{rule(atomOf(long, heads...)), rule(atomOf("p"), on(long, args...))},
			}
			want := 4
			if bytes > api.MaxName {
				want = api.MaxRules + 1
			}
			just(t, p, atomOf(long, args...), want)
			just(t, p, atomOf("p"), want+4)
		}
	}
}

// P15.1: a name that is too long, of a type, a constructor, a column or a relation that no Clause gives, keeps a question from being turned, if the turned program has it.
func TestLongOtherNames(t *testing.T) {
	short, long := strings.Repeat("n", api.MaxName), strings.Repeat("n", api.MaxName+1)
	for what, put := range map[string]func(p *api.Prog, name string){
		"a relation":           func(p *api.Prog, name string) { p.Decls[0].Name, p.Clauses[0].Body[0].Atom.Rel = name, name },
		"its column":           func(p *api.Prog, name string) { p.Decls[0].Cols[0].Name = name },
		"a column that is f":   func(p *api.Prog, name string) { p.Decls[1].Cols[1].Name = name },
		"a type":               func(p *api.Prog, name string) { p.Types[0].Name = name },
		"a constructor":        func(p *api.Prog, name string) { p.Types[1].Ctors[0].Name = name },
		"a constructor's part": func(p *api.Prog, name string) { p.Types[1].Ctors[1].Fields[0].Name = name },
	} {
		p := parsed(t, ".type A <: number .type T = Leaf {} | Node {v: number} .decl e(x: number, y: number) .decl p(x: number, y: number) p(x, y) :- e(x, y).")
		q := atom(t, "p(1, x)")
		put(&p, short)
		if _, turned := Turn(p, q); !turned {
			t.Errorf("%s with a short name: not turned", what)
		}
		put(&p, long)
		stays(t, p, q)
	}
	p := parsed(t, edges)
	p.Decls = append(p.Decls, api.Decl{Name: long, Cols: []api.Field{{Name: long, Type: "number"}}})
	if _, turned := Turn(p, atom(t, "p(1, x)")); !turned {
		t.Error("a long name that no question needs: not turned")
	}
}

// P15.1: a Clause that gets just 16 Lits is not too long, one that gets 17 is, of the question's relation, and of one below it, but not of one that the question does not need.
func TestLongBodies(t *testing.T) {
	for lits := 13; lits < 40; lits++ {
		body := slices.Repeat([]api.Lit{on("e", variable("x"))}, lits)
		p := parsed(t, ".decl e(x: number) .decl p(x: number) .decl r(x: number) .decl u(x: number) r(x) :- p(x). r(1). u(x) :- r(x).")
		p.Clauses = append(p.Clauses, rule(atomOf("p", variable("x")), body...))
		want := api.MaxRules + 1
		if lits < api.MaxBody {
			want = 5
		}
		just(t, p, atom(t, "p(x)"), want)
		just(t, p, atom(t, "r(1)"), want+5)
		p.Clauses = append(p.Clauses[:3], rule(atomOf("u", variable("x")), body...))
		p.Clauses[0] = p.Clauses[1]
		just(t, p, atom(t, "r(x)"), 5)
	}
	body := "p(1) :- n(1)" + strings.Repeat(", r(1)", 14) + "."
	p := parsed(t, world+".decl p(x: number) .decl r(x: number) r(x) :- n(x). "+body)
	got, turned := Turn(p, atom(t, "p(x)"))
	for i, c := range got.Clauses[1:15] {
		if len(c.Body) != i+2 || c.Head.Rel != "r.m_b" {
			t.Errorf("Clause %d has %d Lits", i, len(c.Body))
		}
	}
	if last := got.Clauses[15]; len(last.Body) != api.MaxBody || last.Head.Rel != "p.a_f" || !turned {
		t.Errorf("%v, the Clause has %d Lits", turned, len(last.Body))
	}
}

// R1: very many relations that a question needs, in a row and in a ring; very many Clauses of one; very many atoms in a Clause.
func TestLarge(t *testing.T) {
	const n = 1 << 13
	x := variable("x")
	var p api.Prog
	for i := range n {
		p.Decls = append(p.Decls, api.Decl{Name: name(i), Cols: columns(1)})
		p.Clauses = append(p.Clauses, rule(atomOf(name(i), x), on(name((i+1)%n), x)))
	}
	just(t, p, atomOf(name(7), x), n)
	p.Clauses = p.Clauses[:n-1]
	just(t, p, atomOf(name(7), x), n)
	just(t, p, atomOf(name(n-1), x), n)
	for k := 1; k < 30; k++ {
		just(t, p, atomOf(name(n-1-k), x), 4*k+1)
	}

	p = api.Prog{Decls: []api.Decl{{Name: "p", Cols: columns(1)}, {Name: "q"}}, Clauses: []api.Clause{rule(atomOf("q"), on("p", x))}}
	for i := range n {
		p.Clauses = append(p.Clauses, rule(atomOf("p", api.Expr{Kind: api.ENum, N: i})))
	}
	just(t, p, atomOf("p", x), n)
	just(t, p, atomOf("q"), n)

	body := slices.Repeat([]api.Lit{on("p", x)}, n)
	p.Clauses = []api.Clause{rule(atomOf("p", api.Expr{Kind: api.ENum})), rule(atomOf("q"), body...)}
	just(t, p, atomOf("q"), n)
	just(t, p, atomOf("p", x), 4)
}

// variables: so many of them, unlike ones.
func variables(n int) []api.Expr {
	var list []api.Expr
	for i := range n {
		list = append(list, variable("x"+strconv.Itoa(i)))
	}
	return list
}

// shifting: a relation of so many columns that asks for itself with its variables in another order.
func shifting(args, turned []api.Expr) api.Prog {
	cols := columns(len(args))
	return api.Prog{
		Decls: []api.Decl{{Name: "p", Cols: cols}, {Name: "e", Cols: cols}},
		Clauses: []api.Clause{
			rule(atomOf("p", args...), on("e", args...)),
			rule(atomOf("p", args...), on("p", turned...), on("e", args...)),
		},
	}
}

// P15.1: each pattern is one column less than the one ahead.
func TestShifting(t *testing.T) {
	for n := range 30 {
		args := variables(n)
		turned := slices.Clone(args)
		for i := range turned {
			turned[i] = api.Expr{Kind: api.EAny}
			if i+1 < n {
				turned[i] = args[i+1]
			}
		}
		just(t, shifting(args, turned), atomOf("p", slices.Repeat([]api.Expr{{Kind: api.ENum}}, n)...), 2+(n+1)*5)
	}
}

// R1: patterns would go on coming, far more than any memory has room for.
func TestManyPatterns(t *testing.T) {
	var args, turned, asked []api.Expr
	for _, round := range []int{2, 3, 5, 7, 11, 13, 17, 19, 23, 29, 31, 37} {
		next := variables(len(args) + round)[len(args):]
		args = append(args, next...)
		turned = append(append(turned, next[1:]...), next[0])
		asked = append(append(asked, api.Expr{Kind: api.ENum}), next[1:]...)
	}
	stays(t, shifting(args, turned), atomOf("p", asked...))
}

// R1: relations of very many columns.
func TestManyColumns(t *testing.T) {
	const n = 1 << 12
	args := variables(n)
	p := shifting(args, args)
	stays(t, p, atomOf("p", args...))
	if !Question(p, atomOf("p", args...)) || Question(p, atomOf("p", append(variables(n-1), args[0])...)) {
		t.Error("a question of many variables")
	}
	p.Decls = append(p.Decls, api.Decl{Name: "q", Cols: columns(1)})
	p.Clauses = []api.Clause{rule(atomOf("q", args[7]), on("e", args...))}
	just(t, p, atomOf("q", args[0]), 5)
}

// R1: expressions as deep as they may be; variables that lie deep are bound.
func TestDeep(t *testing.T) {
	const n = 1 << 13
	sum, pattern := variable("x"), variable("x")
	for range n {
		sum = api.Expr{Kind: api.EOp, S: "+", Kids: []api.Expr{sum, {Kind: api.ENum, N: 1}}}
		pattern = api.Expr{Kind: api.ECon, S: "Node", Kids: []api.Expr{{Kind: api.EAny}, pattern}}
	}
	p := parsed(t, world+".decl p(x: T) .decl r(x: T) r(x) :- t(x). p(x) :- t(x), r(x).")
	p.Clauses[1].Body[0].Atom.Args[0] = pattern
	p.Clauses[1].Body = append(p.Clauses[1].Body, api.Lit{Kind: api.LCmp, Op: "=", L: variable("z"), R: api.Expr{Kind: api.ENum}}, api.Lit{Kind: api.LCmp, Op: "<", L: variable("z"), R: sum})
	for inner := &p.Clauses[1].Body[3].R; ; inner = &inner.Kids[0] {
		if inner.Kind == api.EVar {
			inner.S = "z"
			break
		}
	}
	got, turned := Turn(p, atom(t, "p(_)"))
	if !turned || got.Clauses[1].Head.Rel != "r.m_b" || !equal(got.Clauses[2].Body[4], p.Clauses[1].Body[3]) {
		t.Errorf("%v, %d Clauses", turned, len(got.Clauses))
	}
	stays(t, p, api.Atom{Rel: "p", Args: []api.Expr{sum}})
}

// R1: parts that are none, and needless ones, wherever they stand.
func TestNeedless(t *testing.T) {
	p := parsed(t, world+".decl p(x: number) .decl r(x: number) r(x) :- n(x). p(x) :- 1 = y, n(x), r(x), r(y).")
	want, _ := Turn(p, atom(t, "p(1)"))
	odd := []api.Expr{variable("z"), {Kind: -1}, {Kind: api.EOp}, {Kind: api.ECon, Kids: []api.Expr{variable("z")}}}
	c := &p.Clauses[1]
	c.Body[0].L.Kids = odd
	c.Body[0].Atom = atomOf("r", odd...)
	c.Body[1].Atom.Args[0].Kids = odd
	c.Body[1].Op, c.Body[1].L, c.Body[1].R = "<", odd[0], odd[1]
	c.Body[2].Atom.Args[0].N = 7
	got, turned := Turn(p, atom(t, "p(1)"))
	if !turned || shown(api.Prog{Decls: got.Decls}) != shown(api.Prog{Decls: want.Decls}) || len(got.Clauses) != len(want.Clauses) || got.Clauses[3].Body[1].Atom.Rel != "r" {
		t.Errorf("%v: %+v", turned, got)
	}
}
