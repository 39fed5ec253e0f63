package pass

import (
	"math"
	"slices"
	"strconv"
	"testing"

	"vestry/api"
	"vestry/syn"
)

func name(i int) string { return "r" + strconv.Itoa(i) }

func variable(s string) api.Expr { return api.Expr{Kind: api.EVar, S: s} }

func numeral(n int) api.Expr { return api.Expr{Kind: api.ENum, N: n} }

func atomOf(rel string, args ...api.Expr) api.Atom { return api.Atom{Rel: rel, Args: args} }

// on: an LAtom.
func on(rel string, args ...api.Expr) api.Lit {
	return api.Lit{Kind: api.LAtom, Atom: atomOf(rel, args...)}
}

// compared: an LCmp.
func compared(op string, l, r api.Expr) api.Lit {
	return api.Lit{Kind: api.LCmp, Op: op, L: l, R: r}
}

// column: one column of a type.
func column(t string) []api.Field { return []api.Field{{Name: "c", Type: t}} }

// row: relations in a row, each with a Clause of the next one; the first an output, the last an input.
func row(n int, clause func(i int) api.Clause) api.Prog {
	var p api.Prog
	for i := range n {
		p.Decls = append(p.Decls, api.Decl{Name: name(i), Cols: column("number"), Output: i == 0, Input: i == n-1})
	}
	for i := range n - 1 {
		p.Clauses = append(p.Clauses, clause(i))
	}
	return p
}

// R1, P14.4: a long row of aliases goes, whichever way the Decls stand.
func TestLongRowOfAliases(t *testing.T) {
	const n = 1 << 13
	x := variable("x")
	p := row(n, func(i int) api.Clause { return api.Clause{Head: atomOf(name(i), x), Body: []api.Lit{on(name(i+1), x)}} })
	want := api.Prog{Decls: []api.Decl{p.Decls[0], p.Decls[n-1]}, Clauses: []api.Clause{{Head: atomOf(name(0), x), Body: []api.Lit{on(name(n-1), x)}}}}
	if q := Best(p); !equal(q, want) {
		t.Errorf("%d Decls, %d Clauses", len(q.Decls), len(q.Clauses))
	}
	q, turned := Alias(p)
	if !turned || len(q.Decls) != n-1 || len(q.Clauses) != n-2 || q.Clauses[0].Body[0].Atom.Rel != name(2) {
		t.Errorf("Alias: %v, %d Decls, %d Clauses", turned, len(q.Decls), len(q.Clauses))
	}
	slices.Reverse(p.Decls)
	slices.Reverse(want.Decls)
	if q := Best(p); !equal(q, want) {
		t.Errorf("reversed: %d Decls, %d Clauses", len(q.Decls), len(q.Clauses))
	}
}

// R1, P14.4: a long row of relations that are inlined, until Clauses are too long, again and again.
func TestLongRowOfBodies(t *testing.T) {
	const n = 1 << 12
	x := variable("x")
	p := row(n, func(i int) api.Clause {
		return api.Clause{Head: atomOf(name(i), x), Body: []api.Lit{on(name(i+1), x), compared("<", x, numeral(i))}}
	})
	q := Best(p)
	lits := 0
	for _, c := range q.Clauses {
		lits += len(c.Body)
		if len(c.Body) > api.MaxBody {
			t.Errorf("a Clause of %d Lits", len(c.Body))
		}
	}
	// Each Clause has one atom, and all comparisons are there still.
	if want := n - 1 + len(q.Clauses); lits != want || len(q.Decls) != len(q.Clauses)+1 || len(q.Clauses) > n/14 {
		t.Errorf("%d Decls, %d Clauses of %d Lits, want %d", len(q.Decls), len(q.Clauses), lits, want)
	}
	if !equal(q, Best(q)) {
		t.Error("Best of Best is another one")
	}
}

// R1: many relations stand in many Clauses.
func TestManyUsers(t *testing.T) {
	const n = 1 << 10
	x := variable("x")
	p := row(n, func(i int) api.Clause { return api.Clause{Head: atomOf(name(i), x), Body: []api.Lit{on(name(i+1), x)}} })
	for i := range n {
		p.Decls = append(p.Decls, api.Decl{Name: "o" + name(i), Cols: column("number"), Output: true})
		p.Clauses = append(p.Clauses, api.Clause{Head: atomOf("o"+name(i), x), Body: []api.Lit{on(name(1), x), on(name(i), x)}})
	}
	q := Best(p)
	if len(q.Decls) != n+2 || len(q.Clauses) != n+1 || q.Clauses[n].Body[0].Atom.Rel != name(n-1) || q.Clauses[n].Body[1].Atom.Rel != name(n-1) {
		t.Errorf("%d Decls, %d Clauses", len(q.Decls), len(q.Clauses))
	}
}

// R1: a very long Clause of aliases, which types keep from going, and of ones that go.
func TestLongClause(t *testing.T) {
	const n = 1 << 10
	x := variable("x")
	p := api.Prog{Types: []api.TypeDecl{{Name: "A", Sub: "number"}, {Name: "B", Sub: "number"}}}
	p.Decls = []api.Decl{{Name: "e", Cols: column("A"), Input: true}, {Name: "f", Cols: column("B"), Input: true}, {Name: "o", Cols: column("number"), Output: true}}
	c := api.Clause{Head: atomOf("o", x)}
	for i := range n {
		p.Decls = append(p.Decls, api.Decl{Name: name(i), Cols: column("number")})
		p.Clauses = append(p.Clauses, api.Clause{Head: atomOf(name(i), x), Body: []api.Lit{on("e", x)}})
		c.Body = append(c.Body, on(name(i), x))
	}
	p.Clauses = append(p.Clauses, c)
	if q := Best(p); len(q.Clauses) != 1 || len(q.Decls) != 3 || len(q.Clauses[0].Body) != n || q.Clauses[0].Body[n-1].Atom.Rel != "e" {
		t.Errorf("%d Decls, %d Clauses", len(q.Decls), len(q.Clauses))
	}
	p.Clauses[n].Body = append(p.Clauses[n].Body, on("f", x))
	if q := Best(p); !syn.Same(p, q) {
		t.Errorf("with types: %d Decls, %d Clauses", len(q.Decls), len(q.Clauses))
	}
}

// R1, P14.1: a ring of very many relations stays, or goes as a whole.
func TestLongRing(t *testing.T) {
	const n = 1 << 13
	x := variable("x")
	p := row(n, func(i int) api.Clause { return api.Clause{Head: atomOf(name(i), x), Body: []api.Lit{on(name(i+1), x)}} })
	p.Decls[n-1].Input = false
	p.Clauses = append(p.Clauses, api.Clause{Head: atomOf(name(n-1), x), Body: []api.Lit{on(name(0), x)}})
	for i, do := range calls() {
		if q, turned := do(p); turned || !syn.Same(p, q) {
			t.Errorf("call %d turns a ring", i)
		}
	}
	p.Decls[0].Output = false
	if q, turned := Trim(p); !turned || len(q.Decls) != 0 || len(q.Clauses) != 0 {
		t.Errorf("%d Decls, %d Clauses", len(q.Decls), len(q.Clauses))
	}
}

// R1, P14.1: as many Decls as there may be; as many Clauses.
func TestManyDecls(t *testing.T) {
	const n = 1 << 16
	var p api.Prog
	for i := range n {
		p.Decls = append(p.Decls, api.Decl{Name: name(i), Input: i%4 == 1, Output: i%4 == 2})
	}
	for i, do := range calls() {
		q, turned := do(p)
		if trims := i == 1 || i == 4; turned != trims || trims && len(q.Decls) != n/2 || !trims && len(q.Decls) != n {
			t.Errorf("call %d: %v, %d Decls", i, turned, len(q.Decls))
		}
	}
	p = api.Prog{Decls: []api.Decl{{Name: "r0", Cols: column("number"), Output: true}}}
	for i := range n / 4 {
		p.Clauses = append(p.Clauses, api.Clause{Head: atomOf("r0", numeral(i)), Body: []api.Lit{compared("<", numeral(i%4), numeral(2))}})
	}
	if q, turned := Fold(p); !turned || len(q.Clauses) != n/8 || len(q.Clauses[n/8-1].Body) != 0 || q.Clauses[2].Head.Args[0].N != 4 {
		t.Errorf("%d Clauses", len(q.Clauses))
	}
}

// R1, P14.1: expressions as deep and as broad as they may be.
func TestDeep(t *testing.T) {
	const n = 1 << 14
	deep := numeral(1)
	for range n {
		deep = api.Expr{Kind: api.EOp, S: "+", Kids: []api.Expr{numeral(1), deep}, At: 3}
	}
	p := parsed(t, world+"p(x) :- e(x).")
	p.Clauses[0].Head.Args[0] = deep
	if q, turned := Fold(p); !turned || q.Clauses[0].Head.Args[0].N != n+1 || q.Clauses[0].Head.Args[0].At != 3 {
		t.Error("a deep operator is not folded")
	}
	p.Clauses[0].Head.Args[0] = api.Expr{Kind: api.EOp, S: "*", Kids: []api.Expr{deep, variable("x")}}
	if q, _ := Fold(p); q.Clauses[0].Head.Args[0].Kids[0].N != n+1 {
		t.Error("a deep operator is not folded within another one")
	}
	made := variable("x")
	for range n {
		made = api.Expr{Kind: api.ECon, S: "Node", Kids: []api.Expr{numeral(1), made}}
	}
	p = parsed(t, world+"a(y) :- t(x), y = 1. p(x) :- a(x).")
	p.Clauses[0].Body[0].Atom.Args[0] = made
	q, turned := Inline(p)
	inner := &q.Clauses[0].Body[0].Atom.Args[0]
	for inner.Kind == api.ECon {
		inner = &inner.Kids[1]
	}
	if !turned || inner.S != "v1" {
		t.Errorf("a deep variable is %q", inner.S)
	}
	for i, do := range calls() {
		if q, _ := do(p); len(q.Clauses) == 0 {
			t.Errorf("call %d of a deep constructor", i)
		}
	}
}

// R1, P14.3: very many new variables, and very many words that they may not have.
func TestManyWords(t *testing.T) {
	const n = 1 << 12
	x := variable("x")
	p := api.Prog{Decls: []api.Decl{{Name: "a", Cols: column("number")}, {Name: "e", Cols: column("number"), Input: true}, {Name: "p", Cols: column("number"), Output: true}}}
	p.Clauses = []api.Clause{{Head: atomOf("a", x), Body: []api.Lit{on("e", x), on("e", variable("y"))}}}
	for i := range n {
		word := variable("v" + strconv.Itoa(2*i+1))
		p.Clauses = append(p.Clauses, api.Clause{Head: atomOf("p", word), Body: []api.Lit{on("a", word)}})
	}
	q, turned := Inline(p)
	for i, c := range q.Clauses {
		if want := "v" + strconv.Itoa(2*i+2); c.Body[1].Atom.Args[0].S != want {
			t.Fatalf("%q, want %q", c.Body[1].Atom.Args[0].S, want)
		}
	}
	if !turned || len(q.Clauses) != n {
		t.Errorf("%d Clauses", len(q.Clauses))
	}
}

// R1: many types, all but few of which no Clause needs, and a long row of Subs that one does.
func TestManyTypes(t *testing.T) {
	const n = 1 << 13
	x := variable("x")
	p := row(n/8, func(i int) api.Clause {
		return api.Clause{Head: atomOf(name(i), x), Body: []api.Lit{on(name(i+1), x), compared(">", x, numeral(i))}}
	})
	p.Types = []api.TypeDecl{{Name: "t0", Sub: "number"}}
	for i := range n {
		p.Types = append(p.Types, api.TypeDecl{Name: "t" + strconv.Itoa(i+1), Sub: "t" + strconv.Itoa(i)})
	}
	p.Decls[n/8-1].Cols = column("t" + strconv.Itoa(n))
	if q := Best(p); len(q.Types) != n+1 || len(q.Clauses) > n/8/14+1 {
		t.Errorf("%d Types, %d Clauses", len(q.Types), len(q.Clauses))
	}
}

// R1: what a part has beside what its Kind needs does no harm, and is no relation, number or operator that counts.
func TestNeedless(t *testing.T) {
	p := parsed(t, world+"a(x) :- e(x), 1 < 2. p(x) :- a(x), x < 3.")
	odd := []api.Expr{{Kind: api.EOp, S: "+"}, {Kind: api.EOp, S: "^", Kids: []api.Expr{numeral(1), numeral(2)}}, {Kind: api.ECon, S: "none"}, {Kind: math.MinInt}}
	p.Clauses[0].Body[1].Atom = atomOf("b", odd...)
	p.Clauses[1].Body[0].L, p.Clauses[1].Body[0].R = numeral(2), numeral(1)
	p.Clauses[1].Body[0].Op = "<"
	p.Clauses[1].Body[0].Atom.Args[0].Kids = odd
	p.Clauses[1].Body[1].Atom = atomOf("a", odd...)
	for i, do := range calls() {
		if _, turned := do(p); turned != (i != 2) {
			t.Errorf("call %d: %v", i, turned)
		}
	}
	if q, _ := Inline(p); len(q.Clauses) != 1 || len(q.Clauses[0].Body) != 3 || q.Clauses[0].Body[2].Kind != api.LCmp {
		t.Errorf("Inline: %s", shown(q))
	}
	if q := Best(p); len(q.Clauses) != 1 || len(q.Clauses[0].Body) != 2 || q.Clauses[0].Body[0].Atom.Rel != "e" {
		t.Errorf("Best: %s", shown(q))
	}
}
