package rules

import (
	"math"
	"math/rand"
	"slices"
	"strconv"
	"testing"

	"vestry/api"
)

func name(i int) string { return "r" + strconv.Itoa(i) }

// hung: a Clause over relations without columns.
func hung(head int, kind int, bodies ...int) api.Clause {
	c := api.Clause{Head: api.Atom{Rel: name(head)}}
	for i, body := range bodies {
		c.Body = append(c.Body, api.Lit{Kind: kind, Atom: api.Atom{Rel: name(body)}, At: i + 1})
	}
	return c
}

// many: a program of n relations without columns, in this order.
func many(order []int) api.Prog {
	var p api.Prog
	for _, i := range order {
		p.Decls = append(p.Decls, api.Decl{Name: name(i)})
	}
	return p
}

// rising: the numbers below n.
func rising(n int) []int {
	all := make([]int, n)
	for i := range all {
		all[i] = i
	}
	return all
}

// inRow: the strata are these relations, one by one.
func inRow(t *testing.T, what string, p api.Prog, order []int) {
	t.Helper()
	rows, fault := Strata(p)
	same := slices.EqualFunc(rows, order, func(row []string, i int) bool { return len(row) == 1 && row[0] == name(i) })
	if fault != (api.Fault{}) || !same {
		t.Errorf("%s: %d strata, %v", what, len(rows), fault)
	}
}

// R1, P13.5: as many Decls as there may be.
func TestManyDecls(t *testing.T) {
	const n = 1 << 16
	order := rand.New(rand.NewSource(1)).Perm(n)
	p := many(order)
	inRow(t, "no Clauses", p, order)
	if Hangs(p, name(0), name(n-1)) || Hangs(p, name(1), name(1)) || Recursive(p, hung(5, api.LAtom, 5)) {
		t.Error("something hangs")
	}
}

// R1: a row of relations, each hanging on the next one, however its Decls stand.
func TestLongRow(t *testing.T) {
	const n = 1 << 14
	chance := rand.New(rand.NewSource(2))
	falling := rising(n)
	slices.Reverse(falling)
	for what, order := range map[string][]int{"rising": rising(n), "falling": falling, "any": chance.Perm(n)} {
		for _, kind := range []int{api.LAtom, api.LNot} {
			p := many(order)
			for _, i := range chance.Perm(n - 1) {
				p.Clauses = append(p.Clauses, hung(i, kind, i+1))
			}
			inRow(t, what, p, falling)
			for pair, want := range map[[2]int]bool{{0, n - 1}: true, {0, 1}: true, {n - 2, n - 1}: true, {700, 9000}: true, {n - 1, 0}: false, {9000, 700}: false, {1, 1}: false} {
				if got := Hangs(p, name(pair[0]), name(pair[1])); got != want {
					t.Errorf("%s: %v: %v", what, pair, got)
				}
			}
			if Recursive(p, p.Clauses[n/2]) {
				t.Errorf("%s: a clause is recursive", what)
			}
		}
	}
}

// R1: a ring of relations, each hanging on the next one.
func TestLongRing(t *testing.T) {
	const n = 1 << 14
	chance := rand.New(rand.NewSource(3))
	order := chance.Perm(n)
	p := many(order)
	for _, i := range chance.Perm(n) {
		p.Clauses = append(p.Clauses, hung(i, api.LAtom, (i+1)%n))
	}
	rows, fault := Strata(p)
	if fault != (api.Fault{}) || len(rows) != 1 || !slices.EqualFunc(rows[0], order, func(s string, i int) bool { return s == name(i) }) {
		t.Errorf("%d strata, %v", len(rows), fault)
	}
	if !Hangs(p, name(n-1), name(n-2)) || !Hangs(p, name(7), name(7)) || !Recursive(p, p.Clauses[5]) || !Recursive(p, hung(900, api.LAtom, 40)) || Recursive(p, hung(900, api.LNot, 40)) {
		t.Error("a ring is none")
	}
	last := &p.Clauses[n-1].Body[0]
	last.Kind, last.At = api.LNot, 99
	if fault := Check(p); fault != (api.Fault{Why: api.ErrStrat, At: 99}) {
		t.Errorf("a ring with a not: %v", fault)
	}
}

// R1: one relation that hangs on very many, and on which very many hang, in one clause and in as many.
func TestBroad(t *testing.T) {
	const n = 1 << 14
	all := rising(n)
	p := many(all)
	p.Clauses = []api.Clause{hung(0, api.LAtom, all[1:]...)}
	inRow(t, "one clause", p, append(all[1:n:n], 0))
	p.Clauses = nil
	for i := range n - 1 {
		p.Clauses = append(p.Clauses, hung(0, api.LNot, i+1), hung(0, api.LAtom, i+1))
	}
	inRow(t, "many clauses", p, append(all[1:n:n], 0))
	p.Clauses = nil
	for i := range n - 1 {
		p.Clauses = append(p.Clauses, hung(i, api.LAtom, n-1))
	}
	inRow(t, "hung on", p, append([]int{n - 1}, all[:n-1]...))
	p.Clauses = []api.Clause{hung(0, api.LAtom, slices.Repeat([]int{0, 1}, n)...)}
	inRow(t, "again and again", p, append([]int{1, 0}, all[2:]...))
	if !Recursive(p, p.Clauses[0]) || Hangs(p, name(1), name(0)) {
		t.Error("again and again")
	}
}

// R1: many rings of two, each on the one behind it: as many strata of two.
func TestManyRings(t *testing.T) {
	const n = 1 << 12
	p := many(rising(2 * n))
	for i := range n {
		p.Clauses = append(p.Clauses, hung(i, api.LAtom, i+n), hung(i+n, api.LAtom, i))
		if i+1 < n {
			p.Clauses = append(p.Clauses, hung(i, api.LNot, i+1, i+1+n))
		}
	}
	rows, fault := Strata(p)
	if fault != (api.Fault{}) || len(rows) != n {
		t.Fatalf("%d strata, %v", len(rows), fault)
	}
	for i, row := range rows {
		if want := []string{name(n - 1 - i), name(2*n - 1 - i)}; !slices.Equal(row, want) {
			t.Fatalf("%v, want %v", row, want)
		}
	}
}

// R1: as many Clauses of one relation as there may be, the last one wrong.
func TestManyClauses(t *testing.T) {
	const n = 1 << 14
	p := api.Prog{Decls: []api.Decl{{Name: "r0", Cols: []api.Field{{Name: "x", Type: "number"}}}}}
	x := api.Expr{Kind: api.EVar, S: "x"}
	atom := api.Atom{Rel: "r0", Args: []api.Expr{x}}
	for range n {
		p.Clauses = append(p.Clauses, api.Clause{Head: atom, Body: []api.Lit{{Kind: api.LAtom, Atom: atom}}})
	}
	if fault := Check(p); fault != (api.Fault{}) {
		t.Error(fault)
	}
	p.Clauses[n-1].Head.Args = []api.Expr{{Kind: api.EOp, S: "+", Kids: []api.Expr{x, x}, At: 77}}
	if fault := Check(p); fault != (api.Fault{Why: api.ErrFinite, At: 77}) {
		t.Error(fault)
	}
}

// R1: a long row of variables, each given its type by the one ahead, made and not made.
func TestLongRowOfVariables(t *testing.T) {
	const n = 1 << 14
	p := api.Prog{Decls: []api.Decl{{Name: "r", Cols: []api.Field{{Name: "x", Type: "number"}}}}}
	variable := func(i int) api.Expr { return api.Expr{Kind: api.EVar, S: strconv.Itoa(i), At: i} }
	c := api.Clause{Head: api.Atom{Rel: "r", Args: []api.Expr{variable(n)}}}
	c.Body = []api.Lit{{Kind: api.LAtom, Atom: api.Atom{Rel: "r", Args: []api.Expr{variable(0)}}}}
	for i := range n {
		c.Body = append(c.Body, api.Lit{Kind: api.LCmp, Op: "=", L: variable(i), R: variable(i + 1)})
	}
	p.Clauses = []api.Clause{c}
	if fault := Check(p); fault != (api.Fault{}) {
		t.Error(fault)
	}
	c.Body[1].L = api.Expr{Kind: api.EOp, S: "*", Kids: []api.Expr{variable(0), variable(0)}}
	if fault := Check(p); fault != (api.Fault{Why: api.ErrFinite, At: n}) {
		t.Error(fault)
	}
}

// R1: expressions as deep as they may be: made in a head, and with a variable of an atom innermost, which is not made.
func TestDeep(t *testing.T) {
	const n = 1 << 15
	p := parsed(t, world+"t(x) :- t(y), x = y.")
	body := &p.Clauses[0].Body
	deep := api.Expr{Kind: api.EVar, S: "x", At: 5}
	for range n {
		deep = api.Expr{Kind: api.ECon, S: "Node", Kids: []api.Expr{{Kind: api.ENum}, deep}, At: 7}
	}
	(*body)[0].Atom.Args[0] = deep
	(*body)[1].R = (*body)[1].L
	if fault := Check(p); fault != (api.Fault{}) {
		t.Errorf("in an atom: %v", fault)
	}
	p.Clauses[0].Head.Args[0] = deep
	if fault := Check(p); fault != (api.Fault{Why: api.ErrFinite, At: 7}) {
		t.Errorf("in a head: %v", fault)
	}
}

// R1, P13.1: Lits of a Kind that is none name no relation that is hung on, nor makes one a clause recursive.
func TestKindOfNone(t *testing.T) {
	for _, kind := range []int{0, api.LCmp, 4, -1, math.MaxInt, math.MinInt} {
		p := many(rising(2))
		p.Clauses = []api.Clause{hung(0, kind, 0, 1), hung(1, kind, 0)}
		if Hangs(p, "r0", "r1") || Hangs(p, "r0", "r0") || Hangs(p, "r1", "r0") || Recursive(p, p.Clauses[0]) {
			t.Errorf("the kind %d hangs", kind)
		}
		if fault := Check(p); fault.Why != api.ErrArg {
			t.Errorf("the kind %d: %v", kind, fault)
		}
		p.Clauses = []api.Clause{hung(0, api.LAtom, 0)}
		if Recursive(p, hung(0, kind, 0)) {
			t.Errorf("the kind %d is recursive", kind)
		}
	}
}

// P13.2: what a part has beside what its Kind needs turns nothing.
func TestNeedless(t *testing.T) {
	p := parsed(t, world+"p(x) :- p(x), z = x, e(_). q(3) :- q(_).")
	made := []api.Expr{{Kind: api.EOp, S: "+"}, {Kind: api.ECon}, {Kind: api.EVar, S: "w"}}
	first := &p.Clauses[0]
	first.Head.Args[0].Kids, first.Body[0].Atom.Args[0].Kids, first.Body[1].R.Kids, first.Body[2].Atom.Args[0].Kids = made, made, made, made
	first.Body[1].Atom.Rel, first.Body[0].Op, first.Body[0].L, first.Body[0].R = "q", "=", api.Expr{Kind: api.EVar, S: "x"}, made[0]
	p.Clauses[1].Head.Args[0].Kids, p.Clauses[1].Head.Args[0].S = made, "+"
	if fault := Check(p); fault != (api.Fault{}) || Hangs(p, "p", "q") {
		t.Error(fault)
	}
}

// A set has just the numbers that were put in, and gives them out rising.
func TestSet(t *testing.T) {
	for _, n := range []int{0, 1, 63, 64, 65, 511, 512, 513, 1024, 5000} {
		s := newSet(n)
		chance := rand.New(rand.NewSource(int64(n)))
		var put []int
		for _, i := range chance.Perm(n) {
			if s.has(i) {
				t.Fatalf("%d is there", i)
			}
			if chance.Intn(3) == 0 || i == n-1 || i == 0 {
				put = append(put, i)
				if !s.add(i) || s.add(i) || !s.has(i) {
					t.Fatalf("%d is not put in once", i)
				}
			}
		}
		slices.Sort(put)
		for _, i := range put {
			if got, there := s.take(); got != i || !there || s.has(i) {
				t.Fatalf("%d %v, want %d", got, there, i)
			}
		}
		if got, there := s.take(); got != 0 || there {
			t.Fatalf("%d %v, want none", got, there)
		}
	}
}
