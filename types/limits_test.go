package types

import (
	"math"
	"slices"
	"strconv"
	"testing"

	"vestry/api"
)

// Parts of clauses that no text is read as are made by hand.

func variable(name string, at int) api.Expr { return api.Expr{Kind: api.EVar, S: name, At: at} }

func num(at int) api.Expr { return api.Expr{Kind: api.ENum, N: 7, At: at} }

func text(at int) api.Expr { return api.Expr{Kind: api.EText, S: "a", At: at} }

func op(sign string, at int, kids ...api.Expr) api.Expr {
	return api.Expr{Kind: api.EOp, S: sign, Kids: kids, At: at}
}

func con(name string, at int, kids ...api.Expr) api.Expr {
	return api.Expr{Kind: api.ECon, S: name, Kids: kids, At: at}
}

func atom(rel string, at int, args ...api.Expr) api.Atom {
	return api.Atom{Rel: rel, Args: args, At: at}
}

func lit(kind int, rel string, at int, args ...api.Expr) api.Lit {
	return api.Lit{Kind: kind, Atom: atom(rel, at+1, args...), At: at}
}

func compared(sign string, at int, left, right api.Expr) api.Lit {
	return api.Lit{Kind: api.LCmp, Op: sign, L: left, R: right, At: at}
}

// tells: Infer answers this fault of a clause over the world, no variables beside an error, and Check the same.
func tells(t *testing.T, what string, why api.Errno, at int, head api.Atom, body ...api.Lit) {
	t.Helper()
	p := parsed(t, world)
	p.Clauses = []api.Clause{{Head: head, Body: body, At: -9}}
	want := api.Fault{Why: why, At: at}
	vars, fault := Infer(p, p.Clauses[0])
	if fault != want || why != api.OK && len(vars) != 0 {
		t.Errorf("%s: %v %s, want %v", what, fault, listed(vars), want)
	}
	if checked := Check(p); checked != want {
		t.Errorf("%s: Check: %v, want %v", what, checked, want)
	}
}

// tellsOf: the same fault is told wherever an expression stands as a value, or as a pattern of a type with the base `number`.
func tellsOf(t *testing.T, what string, why api.Errno, at int, x api.Expr) {
	t.Helper()
	no := atom("no", 1)
	tells(t, what+" in an atom", why, at, no, lit(api.LAtom, "n", 2, x))
	tells(t, what+" in a constructor of an atom", why, at, no, lit(api.LAtom, "t", 2, con("Node", 3, x, api.Expr{Kind: api.EAny})))
	tells(t, what+" in a not", why, at, no, lit(api.LNot, "n", 2, x))
	tells(t, what+" in a head", why, at, atom("n", 1, x))
	tells(t, what+" in a constructor", why, at, atom("t", 1, con("Node", 2, x, con("Leaf", 3))))
	tells(t, what+" as an operand of an atom", why, at, no, lit(api.LAtom, "n", 2, op("+", 3, num(4), x)))
	tells(t, what+" as an operand", why, at, atom("n", 1, op("+", 2, op("-", 3, x, num(4)), text(5))))
	for _, sign := range []string{"=", "!=", "<", "<=", ">", ">="} {
		tells(t, what+" on the left", why, at, no, compared(sign, 2, x, num(3)))
		tells(t, what+" on the right", why, at, no, compared(sign, 2, num(3), x))
	}
	tells(t, what+" as what gives a type", why, at, no, compared("=", 2, variable("v", 3), x))
	tells(t, what+" as what gives a type to the right", why, at, no, compared("=", 2, x, variable("v", 3)))
}

// P12.3: ErrArg at an expression of a Kind that is none.
func TestKindOfNone(t *testing.T) {
	for _, kind := range []int{0, 7, -1, 100, math.MaxInt, math.MinInt} {
		x := api.Expr{Kind: kind, S: "x", N: 3, Kids: []api.Expr{variable("x", 5)}, At: 77}
		tellsOf(t, "a kind", api.ErrArg, 77, x)
		tells(t, "in another column", api.ErrArg, 77, atom("no", 1), lit(api.LAtom, "uu", 2, x))
		tells(t, "behind a wrong one", api.ErrType, 4, atom("no", 1), lit(api.LAtom, "nn", 2, text(4), x))
		tells(t, "ahead of a wrong one", api.ErrArg, 77, atom("no", 1), lit(api.LAtom, "nn", 2, x, text(4)))
		tells(t, "in an atom of another width", api.ErrWidth, 3, atom("no", 1), lit(api.LAtom, "nn", 2, x))
	}
}

// P12.3: ErrArg at an operator that is none, ahead of its operands; so at one that has not two.
func TestOperatorOfNone(t *testing.T) {
	for _, sign := range []string{"", "^", "==", "=", "<", "++", "+ ", "**", "x", "Leaf"} {
		tellsOf(t, "the operator "+sign, api.ErrArg, 77, op(sign, 77, num(5), num(6)))
		tellsOf(t, "the operator with a wrong operand "+sign, api.ErrArg, 77, op(sign, 77, variable("x", 5), text(6)))
	}
	for _, sign := range []string{"+", "-", "*", "/", "%"} {
		tells(t, sign, api.OK, 0, atom("n", 1, op(sign, 77, num(5), num(6))))
		for _, n := range []int{0, 1, 3, 9} {
			tellsOf(t, sign+" of "+strconv.Itoa(n), api.ErrArg, 77, op(sign, 77, slices.Repeat([]api.Expr{num(5)}, n)...))
		}
	}
	tells(t, "as a pattern of another base", api.ErrType, 77, atom("no", 1), lit(api.LAtom, "y", 2, op("^", 77)))
}

// P12.3: ErrArg at a Lit of a Kind, or with a sign, that is none: in its turn, ahead of its sides; no atom is looked for in it.
func TestLitOfNone(t *testing.T) {
	no := atom("no", 1)
	for _, kind := range []int{0, 4, -1, math.MaxInt} {
		wrong := lit(kind, "none", 50, variable("x", 51))
		wrong.Op, wrong.L, wrong.R = "=", text(52), num(53)
		tells(t, "a kind", api.ErrArg, 50, no, wrong)
		tells(t, "ahead of the head", api.ErrArg, 50, atom("n", 1, text(2)), wrong)
		tells(t, "behind a Lit", api.ErrType, 3, no, compared("=", 2, text(4), num(3)), wrong)
		tells(t, "ahead of a Lit", api.ErrArg, 50, no, wrong, compared("=", 2, text(4), num(3)))
		tells(t, "behind an atom of no relation", api.ErrNone, 9, no, wrong, lit(api.LNot, "none", 8))
	}
	for _, sign := range []string{"", "==", "!", "<>", "=<", "=>", "+", "= "} {
		tells(t, "the sign "+sign, api.ErrArg, 50, no, compared(sign, 50, num(1), num(2)))
		tells(t, "ahead of the sides "+sign, api.ErrArg, 50, no, compared(sign, 50, variable("x", 1), api.Expr{At: 3}))
		tells(t, "behind a Lit "+sign, api.ErrGround, 3, no, lit(api.LNot, "n", 2, variable("x", 3)), compared(sign, 50, num(1), num(2)))
	}
}

// P12.3: what a part has beside what its Kind needs turns nothing.
func TestNeedless(t *testing.T) {
	kids := []api.Expr{{Kind: 99}, variable("y", 3)}
	x := variable("x", 1)
	x.Kids, x.N = kids, 4
	n := num(2)
	n.S, n.Kids = "x", kids
	s := text(3)
	s.Kids, s.N = kids, 5
	anything := api.Expr{Kind: api.EAny, S: "x", Kids: kids}
	given := compared("=", 5, variable("z", 6), n)
	given.Atom = atom("none", 7, anything)
	a := lit(api.LAtom, "mix", 8, n, s, anything)
	a.Op, a.L, a.R = "<", s, s
	p := parsed(t, world)
	vars, fault := Infer(p, api.Clause{Head: atom("nn", 1, x, n), Body: []api.Lit{a, lit(api.LAtom, "n", 9, x), given}})
	if listed(vars) != "x number, z number" || fault != (api.Fault{}) {
		t.Errorf("%s %v", listed(vars), fault)
	}
}

// P12.3: variables may have any names, those of types, relations and constructors too.
func TestNamesOfVariables(t *testing.T) {
	names := []string{"", "_", "number", "A", "n", "Leaf", "a.b", "1", "\x00"}
	var c api.Clause
	c.Head = atom("no", 1)
	for _, name := range names {
		c.Body = append(c.Body, lit(api.LAtom, "n", 2, variable(name, 3)))
	}
	c.Body = append(c.Body, lit(api.LAtom, "a", 2, variable("_", 3)))
	vars, fault := Infer(parsed(t, world), c)
	if fault != (api.Fault{}) || len(vars) != len(names) {
		t.Fatalf("%v %v", vars, fault)
	}
	for i, v := range vars {
		want := api.Field{Name: names[i], Type: "number"}
		if i == 1 {
			want.Type = "A"
		}
		if v != want {
			t.Errorf("%q, want %q", v, want)
		}
	}
}

// P12.3: sums of no constructors have values in variables alone; constructors of a Type without a name are its own.
func TestSumsOfNoText(t *testing.T) {
	p := api.Prog{
		Types: []api.TypeDecl{{Name: "Z"}, {Name: "ZZ", Sub: "Z"}, {Name: "", Ctors: []api.Ctor{{Name: "", Fields: []api.Field{{Name: "", Type: ""}}}}}},
		Decls: []api.Decl{{Name: "z", Cols: []api.Field{{Name: "x", Type: "Z"}}}, {Name: "zz", Cols: []api.Field{{Name: "x", Type: "ZZ"}}}, {Name: "", Cols: []api.Field{{Name: "x", Type: ""}}}},
	}
	for want, c := range map[string]api.Clause{
		"x ZZ": {Head: atom("z", 1, variable("x", 2)), Body: []api.Lit{lit(api.LAtom, "z", 3, variable("x", 4)), lit(api.LAtom, "zz", 5, variable("x", 6)), lit(api.LNot, "z", 7, variable("x", 8))}},
		"y ":   {Head: atom("", 1, con("", 2, variable("y", 3))), Body: []api.Lit{lit(api.LAtom, "", 3, con("", 4, variable("y", 5)))}},
	} {
		if vars, fault := Infer(p, c); listed(vars) != want || fault != (api.Fault{}) {
			t.Errorf("%s %v, want %s", listed(vars), fault, want)
		}
	}
	for _, x := range []api.Expr{num(9), text(9), op("+", 9, num(1), num(2)), con("", 9, num(1))} {
		head := api.Clause{Head: atom("z", 1, x)}
		if _, fault := Infer(p, head); fault.Why != api.ErrType {
			t.Errorf("%+v: %v", x, fault)
		}
		body := api.Clause{Head: atom("z", 1, variable("x", 2)), Body: []api.Lit{lit(api.LAtom, "z", 3, variable("x", 4)), lit(api.LAtom, "zz", 5, x)}}
		if _, fault := Infer(p, body); fault != (api.Fault{Why: api.ErrType, At: 9}) {
			t.Errorf("%+v: %v", x, fault)
		}
	}
}

// row: Types t0, t1 and so on, each with the one behind it as its Sub, the last one with this Sub.
func row(n int, last string) []api.TypeDecl {
	all := make([]api.TypeDecl, n)
	for i := range all {
		all[i] = api.TypeDecl{Name: "t" + strconv.Itoa(i), Sub: "t" + strconv.Itoa(i+1), At: i}
	}
	all[n-1].Sub = last
	return all
}

// R1: however long a row of Subs is, and wherever it ends, all calls end.
func TestLongRows(t *testing.T) {
	const n = 1 << 16
	first, last := "t0", "t"+strconv.Itoa(n-1)
	for sub, want := range map[string]struct {
		base string
		why  api.Fault
	}{
		"number": {"number", api.Fault{}},
		"symbol": {"symbol", api.Fault{}},
		"":       {last, api.Fault{}},
		"X":      {"", api.Fault{Why: api.ErrNone, At: n - 1}},
		first:    {"", api.Fault{Why: api.ErrRing}},
		last:     {"", api.Fault{Why: api.ErrRing}},
		"t999":   {"", api.Fault{Why: api.ErrRing}},
	} {
		p := api.Prog{Types: row(n, sub)}
		based(t, p, first, want.base)
		based(t, p, last, want.base)
		if got := Below(p, first, last); got != (want.base != "") {
			t.Errorf("to %s: %v", sub, got)
		}
		if Below(p, last, first) || Below(p, first, "X") {
			t.Errorf("to %s: the last one is below the first one", sub)
		}
		if fault := Check(p); fault != want.why {
			t.Errorf("to %s: %v, want %v", sub, fault, want.why)
		}
	}
}

// R1: a long row of Subs, and many variables that are narrowed along it.
func TestLongRowsNarrowed(t *testing.T) {
	const n = 1 << 14
	p := api.Prog{Types: row(2*n, "number"), Decls: []api.Decl{
		{Name: "low", Cols: []api.Field{{Name: "x", Type: "t0"}}},
		{Name: "high", Cols: []api.Field{{Name: "x", Type: "number"}}},
	}}
	c := api.Clause{Head: atom("low", 1, num(2))}
	for i := range n / 2 {
		x := variable(strconv.Itoa(i%64), 3)
		c.Body = append(c.Body, lit(api.LAtom, "high", 4, x), lit(api.LAtom, "low", 5, x))
	}
	p.Clauses = []api.Clause{c}
	if fault := Check(p); fault != (api.Fault{}) {
		t.Error(fault)
	}
	vars, _ := Infer(p, c)
	if len(vars) != 64 || slices.ContainsFunc(vars, func(v api.Field) bool { return v.Type != "t0" }) {
		t.Errorf("%v", vars)
	}
}

// nested: an expression within which so many others lie, the innermost one the one that is told.
func nested(n int, x api.Expr, around func(x api.Expr) api.Expr) api.Expr {
	for range n {
		x = around(x)
	}
	return x
}

// R1: however deep expressions are, all calls end.
func TestDeep(t *testing.T) {
	const n = 1 << 15
	no := atom("no", 1)
	sum := func(x api.Expr) api.Expr { return op("+", 3, x, num(4)) }
	right := func(x api.Expr) api.Expr { return op("*", 3, num(4), x) }
	node := func(x api.Expr) api.Expr { return con("Node", 3, num(4), x) }
	for _, around := range []func(api.Expr) api.Expr{sum, right} {
		deep := nested(n, num(9), around)
		wrong := nested(n, variable("x", 9), around)
		tells(t, "operators in a head", api.OK, 0, atom("n", 1, deep))
		tells(t, "operators in an atom", api.OK, 0, no, lit(api.LAtom, "n", 2, deep))
		tells(t, "wrong operators", api.ErrGround, 9, atom("n", 1, wrong))
		tells(t, "wrong operators in a not", api.ErrGround, 9, no, lit(api.LNot, "n", 2, wrong))
		tells(t, "wrong operators on the right", api.ErrGround, 9, no, compared("<", 2, num(3), wrong))
	}
	deep, wrong := nested(n, con("Leaf", 9), node), nested(n, num(9), node)
	tells(t, "constructors in a head", api.OK, 0, atom("t", 1, deep))
	tells(t, "constructors in an atom", api.OK, 0, no, lit(api.LAtom, "uu", 2, deep))
	tells(t, "constructors that give a type", api.OK, 0, no, compared("=", 2, variable("x", 3), deep))
	tells(t, "wrong constructors in a head", api.ErrType, 9, atom("t", 1, wrong))
	tells(t, "wrong constructors in an atom", api.ErrType, 9, no, lit(api.LAtom, "uu", 2, wrong))
}

// broad: a program with n Decls, n Types with a constructor each, and n Clauses.
func broad(n int) api.Prog {
	var p api.Prog
	for i := range n {
		name := strconv.Itoa(i)
		p.Types = append(p.Types, api.TypeDecl{Name: name, Ctors: []api.Ctor{{Name: name, Fields: []api.Field{{Name: "x", Type: "number"}}}}, At: i})
		p.Decls = append(p.Decls, api.Decl{Name: name, Cols: []api.Field{{Name: "x", Type: name}}, At: i})
		p.Clauses = append(p.Clauses, api.Clause{Head: atom(name, i, con(name, i, num(i)))})
	}
	return p
}

// R1: however broad programs and clauses are, all calls end.
func TestBroad(t *testing.T) {
	const n = 1 << 13
	p := broad(n)
	if fault := Check(p); fault != (api.Fault{}) {
		t.Errorf("many items: %v", fault)
	}
	p.Clauses[n-1].Head.Args[0].S = "0"
	if fault := Check(p); fault != (api.Fault{Why: api.ErrType, At: n - 1}) {
		t.Errorf("many items, the last one wrong: %v", fault)
	}
	var wide api.Decl
	var c api.Clause
	for i := range 2 * n {
		wide.Cols = append(wide.Cols, api.Field{Name: strconv.Itoa(i), Type: "symbol"})
		c.Head.Args = append(c.Head.Args, variable(strconv.Itoa(i), i))
	}
	c.Body = []api.Lit{{Kind: api.LAtom, Atom: c.Head}}
	p = api.Prog{Decls: []api.Decl{wide}, Clauses: []api.Clause{c}}
	if fault := Check(p); fault != (api.Fault{}) {
		t.Errorf("many columns: %v", fault)
	}
	if vars, _ := Infer(p, c); !slices.Equal(vars, wide.Cols) {
		t.Errorf("many columns: %d variables", len(vars))
	}
	wide.Cols[2*n-1].Name = "0"
	if fault := Check(api.Prog{Decls: []api.Decl{wide}}); fault != (api.Fault{Why: api.ErrThere}) {
		t.Errorf("many columns, the last one twice: %v", fault)
	}
	p = api.Prog{Types: []api.TypeDecl{{Name: "T", Ctors: []api.Ctor{{Name: "L", Fields: wide.Cols[:2*n-1]}}}}}
	for i := range n {
		p.Types[0].Ctors = append(p.Types[0].Ctors, api.Ctor{Name: strconv.Itoa(i)})
	}
	if fault := Check(p); fault != (api.Fault{}) {
		t.Errorf("many constructors: %v", fault)
	}
	p.Types[0].Ctors[n].Name = "L"
	if fault := Check(p); fault != (api.Fault{Why: api.ErrThere}) {
		t.Errorf("many constructors, the last one twice: %v", fault)
	}
}
