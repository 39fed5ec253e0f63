package show

import (
	"math"
	"strings"
	"testing"

	"vestry/api"
	"vestry/syn"
)

// variable, number, text, anyone, op, con: expressions.
func variable(s string) api.Expr { return api.Expr{Kind: api.EVar, S: s} }
func number(n int) api.Expr      { return api.Expr{Kind: api.ENum, N: n} }
func text(s string) api.Expr     { return api.Expr{Kind: api.EText, S: s} }
func anyone() api.Expr           { return api.Expr{Kind: api.EAny} }
func op(s string, kids ...api.Expr) api.Expr {
	return api.Expr{Kind: api.EOp, S: s, Kids: kids}
}
func con(s string, kids ...api.Expr) api.Expr {
	return api.Expr{Kind: api.ECon, S: s, Kids: kids}
}

// atom, is, not, compare, clause: what a clause is made of.
func atom(rel string, args ...api.Expr) api.Atom { return api.Atom{Rel: rel, Args: args} }
func is(a api.Atom) api.Lit                      { return api.Lit{Kind: api.LAtom, Atom: a} }
func not(a api.Atom) api.Lit                     { return api.Lit{Kind: api.LNot, Atom: a} }
func compare(op string, l, r api.Expr) api.Lit {
	return api.Lit{Kind: api.LCmp, Op: op, L: l, R: r}
}
func clause(head api.Atom, body ...api.Lit) api.Clause {
	return api.Clause{Head: head, Body: body}
}

// types, decls, comps, inits, clauses: programs with items of one kind.
func types(items ...api.TypeDecl) api.Prog { return api.Prog{Types: items} }
func decls(items ...api.Decl) api.Prog     { return api.Prog{Decls: items} }
func comps(items ...api.Comp) api.Prog     { return api.Prog{Comps: items} }
func inits(items ...api.Init) api.Prog     { return api.Prog{Inits: items} }
func clauses(items ...api.Clause) api.Prog { return api.Prog{Clauses: items} }

// fact: a program that has one expression, as an argument.
func fact(x api.Expr) api.Prog { return clauses(clause(atom("p", x))) }

// times: one thing again and again.
func times[T any](n int, x T) []T {
	all := make([]T, n)
	for i := range all {
		all[i] = x
	}
	return all
}

// shows: just this text is answered, it is laid out as it is, and it is read as the program.
func shows(t *testing.T, p api.Prog, want string) {
	t.Helper()
	if got, e := Show(p); got != want || e != api.OK {
		t.Errorf("%.300q %v, want %.300q", got, e, want)
	}
	if got, fault := Format(want); got != want || fault != (api.Fault{}) {
		t.Errorf("laid out: %.300q %v, want %.300q", got, fault, want)
	}
	if again, fault := syn.Parse(want); fault != (api.Fault{}) || !syn.Same(again, p) {
		t.Errorf("%.300q is read as another program, %v", want, fault)
	}
}

// showsExpr: the expression has this text, as an argument and on both sides of a comparison.
func showsExpr(t *testing.T, x api.Expr, want string) {
	t.Helper()
	shows(t, fact(x), "p("+want+").\n")
	shows(t, clauses(clause(atom("p"), compare("<=", x, x))), "p() :- "+want+" <= "+want+".\n")
	shows(t, fact(con("A", x, x)), "p($A("+want+", "+want+")).\n")
}

// refused: this error is answered, and no text.
func refused(t *testing.T, what string, p api.Prog, why api.Errno) {
	t.Helper()
	if got, e := Show(p); got != "" || e != why {
		t.Errorf("%s: %.90q %v, want %v", what, got, e, why)
	}
}

// formats: the text is laid out like this.
func formats(t *testing.T, s, want string) {
	t.Helper()
	if got, fault := Format(s); got != want || fault != (api.Fault{}) {
		t.Errorf("%.300q: %.300q %v, want %.300q", s, got, fault, want)
	}
}

// faults: this fault is answered, and no text.
func faults(t *testing.T, s string, why api.Errno, at int) {
	t.Helper()
	if got, fault := Format(s); got != "" || fault != (api.Fault{Why: why, At: at}) {
		t.Errorf("%.90q: %.90q %v, want %v at %d", s, got, fault, why, at)
	}
}

// P10.2: the document's example.
func TestExample(t *testing.T) {
	formats(t, "p(x):-e(x,y),x<1+2*y.", "p(x) :- e(x, y), x < 1 + (2 * y).\n")
}

// P10.1: a program without items, its lists nil or empty.
func TestNothing(t *testing.T) {
	shows(t, api.Prog{}, "")
	shows(t, api.Prog{Types: []api.TypeDecl{}, Decls: []api.Decl{}, Comps: []api.Comp{}, Inits: []api.Init{}, Clauses: []api.Clause{}}, "")
	for _, s := range []string{"", " ", "\n", "// c", "/* p(). */"} {
		formats(t, s, "")
	}
}

// P10.1: types below others, and sums.
func TestTypes(t *testing.T) {
	shows(t, types(api.TypeDecl{Name: "A", Sub: "B"}), ".type A <: B\n")
	shows(t, types(api.TypeDecl{Name: "A", Sub: "d.B"}, api.TypeDecl{Name: "_1", Sub: "_"}), ".type A <: d.B\n.type _1 <: _\n")
	leaf := api.Ctor{Name: "Leaf"}
	node := api.Ctor{Name: "Node", Fields: []api.Field{{Name: "l", Type: "T"}, {Name: "r", Type: "T"}}}
	one := api.Ctor{Name: "One", Fields: []api.Field{{Name: "v", Type: "d.e"}}}
	wide := api.Ctor{Name: "W", Fields: times(api.MaxWidth, api.Field{Name: "x", Type: "_"})}
	shows(t, types(api.TypeDecl{Name: "T", Ctors: []api.Ctor{leaf, node}}), ".type T = Leaf {} | Node {l: T, r: T}\n")
	shows(t, types(api.TypeDecl{Name: "T", Ctors: []api.Ctor{leaf}}), ".type T = Leaf {}\n")
	shows(t, types(api.TypeDecl{Name: "T", Ctors: []api.Ctor{one}}), ".type T = One {v: d.e}\n")
	shows(t, types(api.TypeDecl{Name: "T", Ctors: []api.Ctor{node, one, {Name: "E", Fields: []api.Field{}}, leaf}}),
		".type T = Node {l: T, r: T} | One {v: d.e} | E {} | Leaf {}\n")
	shows(t, types(api.TypeDecl{Name: "T", Ctors: []api.Ctor{wide}}), ".type T = W {x: _, x: _, x: _, x: _, x: _, x: _, x: _, x: _}\n")
	refused(t, "a sum of no constructors", types(api.TypeDecl{Name: "T"}), api.ErrArg)
	refused(t, "a sum of no constructors", types(api.TypeDecl{Name: "T", Ctors: []api.Ctor{}}), api.ErrArg)
}

// P10.1: relations that are input, output, both, neither.
func TestDecls(t *testing.T) {
	shows(t, decls(api.Decl{Name: "e", Cols: []api.Field{{Name: "a", Type: "number"}, {Name: "b", Type: "T"}}}), ".decl e(a: number, b: T)\n")
	shows(t, decls(api.Decl{Name: "e"}), ".decl e()\n")
	shows(t, decls(api.Decl{Name: "e", Input: true}), ".decl e() input\n")
	shows(t, decls(api.Decl{Name: "e", Output: true}), ".decl e() output\n")
	shows(t, decls(api.Decl{Name: "e", Input: true, Output: true}), ".decl e() input output\n")
	shows(t, decls(api.Decl{Name: "e", Cols: []api.Field{{Name: "input", Type: "d.T"}}, Output: true}, api.Decl{Name: "input"}),
		".decl e(input: d.T) output\n.decl input()\n")
	formats(t, ".decl e() output input output", ".decl e() input output\n")
}

// P10.1: a clause behind a relation may begin with the word that tells what a relation is.
func TestInputAtoms(t *testing.T) {
	for _, word := range []string{"input", "output"} {
		p := decls(api.Decl{Name: "e", Input: true})
		p.Clauses = []api.Clause{clause(atom(word))}
		shows(t, p, ".decl e() input\n"+word+"().\n")
	}
}

// P10.1: components with and without Bases, empty and within one another.
func TestComps(t *testing.T) {
	shows(t, comps(api.Comp{Name: "C"}), ".comp C {\n}\n")
	shows(t, comps(api.Comp{Name: "C", Bases: []string{}}), ".comp C {\n}\n")
	shows(t, comps(api.Comp{Name: "C", Bases: []string{"D"}}), ".comp C : D {\n}\n")
	shows(t, comps(api.Comp{Name: "C", Bases: []string{"D", "E"}}), ".comp C : D, E {\n}\n")
	shows(t, comps(api.Comp{Name: "C", Bases: []string{"D", "e.F", "_"}}, api.Comp{Name: "C"}), ".comp C : D, e.F, _ {\n}\n.comp C {\n}\n")
	inner := api.Comp{Name: "I", Bases: []string{"J"}, Body: clauses(clause(atom("p")))}
	middle := api.Comp{Name: "M", Body: api.Prog{Decls: []api.Decl{{Name: "r"}}, Comps: []api.Comp{inner, {Name: "K"}}}}
	p := comps(api.Comp{Name: "O", Bases: []string{"M"}, Body: comps(middle)})
	p.Inits = []api.Init{{Name: "o", Comp: "O"}}
	shows(t, p, ".comp O : M {\n.comp M {\n.decl r()\n.comp I : J {\np().\n}\n.comp K {\n}\n}\n}\n.init o = O\n")
}

// P10.1: instances.
func TestInits(t *testing.T) {
	shows(t, inits(api.Init{Name: "d", Comp: "C"}), ".init d = C\n")
	shows(t, inits(api.Init{Name: "d", Comp: "C"}, api.Init{Name: "_e", Comp: "c.D"}, api.Init{Name: "f", Comp: "_"}), ".init d = C\n.init _e = c.D\n.init f = _\n")
}

// P10.1: the kinds of items stand in their order, in components too, and the items of each kind in theirs.
func TestKinds(t *testing.T) {
	p := api.Prog{
		Types:   []api.TypeDecl{{Name: "T", Sub: "number"}, {Name: "S", Ctors: []api.Ctor{{Name: "L"}}}},
		Decls:   []api.Decl{{Name: "b"}, {Name: "a"}},
		Inits:   []api.Init{{Name: "j", Comp: "C"}, {Name: "i", Comp: "C"}},
		Clauses: []api.Clause{clause(atom("z")), clause(atom("y"))},
	}
	inner := ".type T <: number\n.type S = L {}\n.decl b()\n.decl a()\n.init j = C\n.init i = C\nz().\ny().\n"
	shows(t, p, inner)
	whole := p
	whole.Comps = []api.Comp{{Name: "C", Body: p}, {Name: "B"}}
	shows(t, whole, ".type T <: number\n.type S = L {}\n.decl b()\n.decl a()\n.comp C {\n"+inner+"}\n.comp B {\n}\n.init j = C\n.init i = C\nz().\ny().\n")
	formats(t, "z(). .init j=C .comp C{.init i=D y(). .decl a()} .type T<:U x(). .decl b()",
		".type T <: U\n.decl b()\n.comp C {\n.decl a()\n.init i = D\ny().\n}\n.init j = C\nz().\nx().\n")
}

// P10.1: clauses without a body, with one Lit and with several, of each kind.
func TestClauses(t *testing.T) {
	x, y := variable("x"), variable("y")
	shows(t, clauses(clause(atom("p"))), "p().\n")
	shows(t, clauses(api.Clause{Head: atom("p"), Body: []api.Lit{}}), "p().\n")
	shows(t, clauses(clause(atom("a.b", x, y))), "a.b(x, y).\n")
	shows(t, clauses(clause(atom("_", times(api.MaxWidth, anyone())...))), "_(_, _, _, _, _, _, _, _).\n")
	shows(t, clauses(clause(atom("p", x), is(atom("e", x, y)))), "p(x) :- e(x, y).\n")
	shows(t, clauses(clause(atom("p", x), not(atom("e", x)))), "p(x) :- !e(x).\n")
	shows(t, clauses(clause(atom("p", x), not(atom("d._.e")))), "p(x) :- !d._.e().\n")
	shows(t, clauses(clause(atom("p", x), is(atom("e", x)), not(atom("a.b")), compare("<", x, number(-3)), is(atom("e")))),
		"p(x) :- e(x), !a.b(), x < -3, e().\n")
	shows(t, clauses(clause(atom("p"), times(api.MaxBody, is(atom("q")))...)), "p() :- "+strings.Repeat("q(), ", api.MaxBody-1)+"q().\n")
	for _, sign := range []string{"=", "!=", "<", "<=", ">", ">="} {
		shows(t, clauses(clause(atom("p"), compare(sign, x, y))), "p() :- x "+sign+" y.\n")
	}
	shows(t, clauses(clause(atom("p"), compare("=", op("+", x, y), op("*", op("-", x, y), y)))), "p() :- x + y = (x - y) * y.\n")
}

// P10.1: variables, numbers, texts and `_`.
func TestLeaves(t *testing.T) {
	for _, s := range []string{"x", "X", "_x", "__", "x1", "input", "number", strings.Repeat("n", api.MaxName)} {
		showsExpr(t, variable(s), s)
	}
	showsExpr(t, anyone(), "_")
	for n, want := range map[int]string{
		0: "0", 1: "1", -1: "-1", 10: "10", -70: "-70",
		math.MaxInt64: "9223372036854775807", -math.MaxInt64: "-9223372036854775807",
	} {
		showsExpr(t, number(n), want)
	}
	refused(t, "the least number, which no text is read as", fact(number(math.MinInt64)), api.ErrArg)
	faults(t, "p(-9223372036854775808).", api.ErrOver, 3)
}

// P10.1: a text has each sign that is written otherwise so, and every other byte as it is.
func TestTexts(t *testing.T) {
	showsExpr(t, text(""), `""`)
	showsExpr(t, text("a"), `"a"`)
	showsExpr(t, text("\"\\\n\t"), `"\"\\\n\t"`)
	showsExpr(t, text(`\n`), `"\\n"`)
	showsExpr(t, text(`$A(_) + (1), /* ). */ // `), `"$A(_) + (1), /* ). */ // "`)
	showsExpr(t, text("\r\x00\xff\u00e4'"), "\"\r\x00\xff\u00e4'\"")
	for b := range 256 {
		s := string([]byte{byte(b)})
		want := s
		switch b {
		case '"':
			want = `\"`
		case '\\':
			want = `\\`
		case 10:
			want = `\n`
		case 9:
			want = `\t`
		}
		showsExpr(t, text(s), `"`+want+`"`)
		showsExpr(t, text("a"+s+s+"b"), `"a`+want+want+`b"`)
	}
}

// P10.1: each operand that is an operator stands in brackets, on either side and whatever binds more, and no other does.
func TestOperators(t *testing.T) {
	x, y, z := variable("x"), variable("y"), variable("z")
	signs := []string{"+", "-", "*", "/", "%"}
	for _, s := range signs {
		showsExpr(t, op(s, x, y), "x "+s+" y")
		showsExpr(t, op(s, number(-1), number(-2)), "-1 "+s+" -2")
		showsExpr(t, op(s, text("a"), anyone()), `"a" `+s+` _`)
		showsExpr(t, op(s, con("A"), con("B", op(s, x, y))), "$A() "+s+" $B(x "+s+" y)")
		for _, r := range signs {
			showsExpr(t, op(s, op(r, x, y), z), "(x "+r+" y) "+s+" z")
			showsExpr(t, op(s, x, op(r, y, z)), "x "+s+" (y "+r+" z)")
			showsExpr(t, op(s, op(r, x, y), op(r, y, z)), "(x "+r+" y) "+s+" (y "+r+" z)")
		}
	}
	showsExpr(t, op("+", op("*", op("-", x, y), z), op("/", number(1), op("%", y, number(2)))), "((x - y) * z) + (1 / (y % 2))")
}

// P10.1: a `-` ahead is an operator of 0, but ahead of a number.
func TestMinus(t *testing.T) {
	formats(t, "p(-x).", "p(0 - x).\n")
	formats(t, "p(-3).", "p(-3).\n")
	formats(t, "p(-0).", "p(0).\n")
	formats(t, "p(--3).", "p(0 - -3).\n")
	formats(t, "p(-(3)).", "p(0 - 3).\n")
	formats(t, "p(1-3,1 -3,1- -3).", "p(1 - 3, 1 - 3, 1 - -3).\n")
	formats(t, "p(-x*y).", "p((0 - x) * y).\n")
	showsExpr(t, op("-", number(0), number(3)), "0 - 3")
	showsExpr(t, op("-", number(-3), number(-3)), "-3 - -3")
}

// P10.1: constructors with no, one and several arguments.
func TestConstructors(t *testing.T) {
	x := variable("x")
	showsExpr(t, con("Leaf"), "$Leaf()")
	showsExpr(t, con("_a", x), "$_a(x)")
	showsExpr(t, con("Node", number(1), con("Leaf")), "$Node(1, $Leaf())")
	showsExpr(t, con("A", op("+", x, x), anyone(), con("B", con("C", text("\""))), op("-", op("-", x, x), x)), `$A(x + x, _, $B($C("\"")), (x - x) - x)`)
	showsExpr(t, con("W", times(api.MaxWidth, number(0))...), "$W(0, 0, 0, 0, 0, 0, 0, 0)")
}

// P10.1, R3: places turn nothing of a text.
func TestPlaces(t *testing.T) {
	p := clauses(api.Clause{At: -7, Head: api.Atom{Rel: "p", At: 99, Args: []api.Expr{{Kind: api.EAny, At: -1}}},
		Body: []api.Lit{{Kind: api.LNot, At: math.MinInt64, Atom: api.Atom{Rel: "q", At: math.MaxInt64}}}})
	p.Types = []api.TypeDecl{{Name: "T", Sub: "S", At: 1 << 40}}
	p.Decls = []api.Decl{{Name: "d", At: 3}}
	p.Comps = []api.Comp{{Name: "C", At: -3}}
	p.Inits = []api.Init{{Name: "i", Comp: "C", At: 5}}
	shows(t, p, ".type T <: S\n.decl d()\n.comp C {\n}\n.init i = C\np(_) :- !q().\n")
}

// P10.2: gaps, comments, needless brackets and needless words are gone.
func TestFormat(t *testing.T) {
	formats(t, "\n\n p ( ( x ) , ((1)) ) /* c */ :- // d\n q ( ) ,\t! r ( _ ) , ( x ) = ( ( x + 1 ) ) . ", "p(x, 1) :- q(), !r(_), x = x + 1.\n")
	formats(t, "p(1+2+3,1*2+3,1+2*3).", "p((1 + 2) + 3, (1 * 2) + 3, 1 + (2 * 3)).\n")
	formats(t, ".type T=L{}|N{v:number,l:T}.decl t(x:T)input input", ".type T = L {} | N {v: number, l: T}\n.decl t(x: T) input\n")
	formats(t, ".comp W { .decl r(x: number) r(x) :- e(x, _). } .init a = W", ".comp W {\n.decl r(x: number)\nr(x) :- e(x, _).\n}\n.init a = W\n")
}

// P10.2: layer 8's faults and layer 9's are answered as they are.
func TestFormatFaults(t *testing.T) {
	faults(t, strings.Repeat(" ", api.MaxText+1), api.ErrLong, 0)
	faults(t, "p(1). ?", api.ErrForm, 6)
	faults(t, "p(007).", api.ErrForm, 3)
	faults(t, `p("a`, api.ErrForm, 2)
	faults(t, "p(9223372036854775808).", api.ErrOver, 2)
	faults(t, " "+strings.Repeat("a", api.MaxName+1)+"().", api.ErrLong, 1)
	faults(t, "p(x) :- d.path < 3.", api.ErrTok, 8)
	faults(t, "p(x)", api.ErrTok, 4)
	faults(t, "p("+strings.Repeat("1, ", api.MaxWidth)+"1).", api.ErrMany, 2+3*api.MaxWidth)
	faults(t, strings.Repeat("p().", api.MaxRules)+"p().", api.ErrMany, 4*api.MaxRules)
	faults(t, "p("+strings.Repeat("(", 16)+"1", api.ErrDeep, 18)
}
