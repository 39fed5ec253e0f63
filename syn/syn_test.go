package syn

import (
	"fmt"
	"reflect"
	"strconv"
	"strings"
	"testing"

	"vestry/api"
)

// variable, number, text, any, op, con: expressions as they are answered.
func variable(s string, at int) api.Expr { return api.Expr{Kind: api.EVar, S: s, At: at} }
func number(n, at int) api.Expr          { return api.Expr{Kind: api.ENum, N: n, At: at} }
func text(s string, at int) api.Expr     { return api.Expr{Kind: api.EText, S: s, At: at} }
func anyone(at int) api.Expr             { return api.Expr{Kind: api.EAny, At: at} }
func op(s string, at int, left, right api.Expr) api.Expr {
	return api.Expr{Kind: api.EOp, S: s, Kids: []api.Expr{left, right}, At: at}
}
func con(s string, at int, kids ...api.Expr) api.Expr {
	return api.Expr{Kind: api.ECon, S: s, Kids: kids, At: at}
}

// atom, is, not, compare, clause: what a clause is made of.
func atom(rel string, at int, args ...api.Expr) api.Atom {
	return api.Atom{Rel: rel, Args: args, At: at}
}
func is(a api.Atom) api.Lit          { return api.Lit{Kind: api.LAtom, Atom: a, At: a.At} }
func not(at int, a api.Atom) api.Lit { return api.Lit{Kind: api.LNot, Atom: a, At: at} }
func compare(op string, at int, l, r api.Expr) api.Lit {
	return api.Lit{Kind: api.LCmp, Op: op, L: l, R: r, At: at}
}
func clause(head api.Atom, body ...api.Lit) api.Clause {
	return api.Clause{Head: head, Body: body, At: head.At}
}

// has: just this program is answered, and no fault.
func has(t *testing.T, s string, want api.Prog) {
	t.Helper()
	if got, fault := Parse(s); fault != (api.Fault{}) || !reflect.DeepEqual(got, want) {
		t.Errorf("%.400q: %.900s %v, want %.900s", s, fmt.Sprintf("%+v", got), fault, fmt.Sprintf("%+v", want))
	}
}

// hasClauses: the text is these clauses.
func hasClauses(t *testing.T, s string, want ...api.Clause) {
	t.Helper()
	has(t, s, api.Prog{Clauses: want})
}

// taken: the text is a program.
func taken(t *testing.T, s string) {
	t.Helper()
	if _, fault := Parse(s); fault != (api.Fault{}) {
		t.Errorf("%.120q: %v", s, fault)
	}
}

// fails: this fault is answered at the place of the `^`, which is taken out of the text, and no program.
func fails(t *testing.T, marked string, why api.Errno) {
	t.Helper()
	at := strings.IndexByte(marked, '^')
	s := marked[:at] + marked[at+1:]
	got, fault := Parse(s)
	if fault != (api.Fault{Why: why, At: at}) || !reflect.DeepEqual(got, api.Prog{}) {
		t.Errorf("%.120q: %.90s %v, want %v at %d", s, fmt.Sprintf("%+v", got), fault, why, at)
	}
}

// times: a text again and again, with another one between.
func times(n int, s, between string) string {
	return strings.TrimSuffix(strings.Repeat(s+between, n), between)
}

// P9.1: the document's example.
func TestExample(t *testing.T) {
	hasClauses(t, "p(x, y) :- e(x, z), p(z, y), x < -3.",
		clause(atom("p", 0, variable("x", 2), variable("y", 5)),
			is(atom("e", 11, variable("x", 13), variable("z", 16))),
			is(atom("p", 20, variable("z", 22), variable("y", 25))),
			compare("<", 29, variable("x", 29), number(-3, 33))))
}

// P9.1: texts without items.
func TestNothing(t *testing.T) {
	for _, s := range []string{"", " \t\r\n", "// p().", "/* p(). */"} {
		has(t, s, api.Prog{})
	}
}

// P9.1: a type is a subtype or a sum.
func TestTypes(t *testing.T) {
	has(t, " .type A <: number", api.Prog{Types: []api.TypeDecl{{Name: "A", Sub: "number", At: 1}}})
	has(t, ".type A <: b.c .type B <: _ .type input <: output", api.Prog{Types: []api.TypeDecl{
		{Name: "A", Sub: "b.c"}, {Name: "B", Sub: "_", At: 15}, {Name: "input", Sub: "output", At: 28},
	}})
	has(t, ".type T = L {}", api.Prog{Types: []api.TypeDecl{{Name: "T", Ctors: []api.Ctor{{Name: "L"}}}}})
	has(t, ".type T = L {} | N {v: number, l: d.T} | _a {_b: _} // c", api.Prog{Types: []api.TypeDecl{{Name: "T", Ctors: []api.Ctor{
		{Name: "L"},
		{Name: "N", Fields: []api.Field{{Name: "v", Type: "number"}, {Name: "l", Type: "d.T"}}},
		{Name: "_a", Fields: []api.Field{{Name: "_b", Type: "_"}}},
	}}}})
}

// P9.1: a relation has columns, and is an input, an output, both or neither, however often the words stand there.
func TestDecls(t *testing.T) {
	has(t, ".decl e()", api.Prog{Decls: []api.Decl{{Name: "e"}}})
	has(t, "\n.decl e(a: number, b: T.u)", api.Prog{Decls: []api.Decl{
		{Name: "e", Cols: []api.Field{{Name: "a", Type: "number"}, {Name: "b", Type: "T.u"}}, At: 1},
	}})
	for _, c := range []struct {
		s             string
		input, output bool
	}{
		{"", false, false}, {"input", true, false}, {"output", false, true},
		{"input output", true, true}, {"output input", true, true},
		{"input input", true, false}, {"output output output", false, true}, {"input output input output", true, true},
	} {
		has(t, ".decl e() "+c.s, api.Prog{Decls: []api.Decl{{Name: "e", Input: c.input, Output: c.output}}})
		has(t, ".decl e() "+c.s+"\n.init a = b", api.Prog{
			Decls: []api.Decl{{Name: "e", Input: c.input, Output: c.output}},
			Inits: []api.Init{{Name: "a", Comp: "b", At: 11 + len(c.s)}},
		})
	}
	has(t, ".decl input(output: input) output", api.Prog{Decls: []api.Decl{
		{Name: "input", Cols: []api.Field{{Name: "output", Type: "input"}}, Output: true},
	}})
}

// P9.1: an input or output behind which `(` stands, a gap between them or not, begins an Atom.
func TestInputAtoms(t *testing.T) {
	has(t, ".decl e() input(1).", api.Prog{
		Decls: []api.Decl{{Name: "e"}}, Clauses: []api.Clause{clause(atom("input", 10, number(1, 16)))},
	})
	has(t, ".decl e() input output /* c */ (1).", api.Prog{
		Decls: []api.Decl{{Name: "e", Input: true}}, Clauses: []api.Clause{clause(atom("output", 16, number(1, 32)))},
	})
	has(t, ".decl e() output output().", api.Prog{
		Decls: []api.Decl{{Name: "e", Output: true}}, Clauses: []api.Clause{clause(atom("output", 17))},
	})
	has(t, ".decl e() input.a().", api.Prog{
		Decls: []api.Decl{{Name: "e"}}, Clauses: []api.Clause{clause(atom("input.a", 10))},
	})
	fails(t, ".decl e() input(1) ^output", api.ErrTok)
	fails(t, ".decl e() input ^\"output\"", api.ErrTok)
	fails(t, ".decl e() input.output^", api.ErrTok)
	fails(t, ".decl e() Input^", api.ErrTok)
	fails(t, "input ^.decl e()", api.ErrTok)
	fails(t, ".type A <: B input^", api.ErrTok)
}

// P9.1: a component has Bases, or none, and a program of its own.
func TestComps(t *testing.T) {
	has(t, ".comp C {}", api.Prog{Comps: []api.Comp{{Name: "C"}}})
	has(t, " .comp C : D, e.F, _ { }", api.Prog{Comps: []api.Comp{{Name: "C", Bases: []string{"D", "e.F", "_"}, At: 1}}})
	has(t, ".comp A { .type T <: U .comp B : A { p(). } .init b = B q(). .decl r() } r().", api.Prog{
		Comps: []api.Comp{{Name: "A", Body: api.Prog{
			Types:   []api.TypeDecl{{Name: "T", Sub: "U", At: 10}},
			Comps:   []api.Comp{{Name: "B", Bases: []string{"A"}, Body: api.Prog{Clauses: []api.Clause{clause(atom("p", 37))}}, At: 23}},
			Inits:   []api.Init{{Name: "b", Comp: "B", At: 44}},
			Clauses: []api.Clause{clause(atom("q", 56))},
			Decls:   []api.Decl{{Name: "r", At: 61}},
		}}},
		Clauses: []api.Clause{clause(atom("r", 73))},
	})
}

// P9.1: an instance.
func TestInits(t *testing.T) {
	has(t, ".init a = C .init b=d.E .init c=_", api.Prog{Inits: []api.Init{
		{Name: "a", Comp: "C"}, {Name: "b", Comp: "d.E", At: 12}, {Name: "c", Comp: "_", At: 24},
	}})
}

// P9.1: items of each kind stand in their order, whatever stands between.
func TestKinds(t *testing.T) {
	has(t, "a(). .decl b() .type C<:D .decl e() .comp F{} .init g=H i(). .comp J{} .type K<:L .init m=N", api.Prog{
		Types:   []api.TypeDecl{{Name: "C", Sub: "D", At: 15}, {Name: "K", Sub: "L", At: 71}},
		Decls:   []api.Decl{{Name: "b", At: 5}, {Name: "e", At: 26}},
		Comps:   []api.Comp{{Name: "F", At: 36}, {Name: "J", At: 61}},
		Inits:   []api.Init{{Name: "g", Comp: "H", At: 46}, {Name: "m", Comp: "N", At: 82}},
		Clauses: []api.Clause{clause(atom("a", 0)), clause(atom("i", 56))},
	})
}

// P9.1: a clause's Lits are atoms, nots and comparisons.
func TestLits(t *testing.T) {
	hasClauses(t, "_().", clause(atom("_", 0)))
	hasClauses(t, "a.b() :- c.d(), !e.f(_), _(), !_().",
		clause(atom("a.b", 0), is(atom("c.d", 9)), not(16, atom("e.f", 17, anyone(21))), is(atom("_", 25)), not(30, atom("_", 31))))
	hasClauses(t, "a() :- b (), ! c(x).", clause(atom("a", 0), is(atom("b", 7)), not(13, atom("c", 15, variable("x", 17)))))
	for _, sign := range []string{"=", "!=", "<", "<=", ">", ">="} {
		hasClauses(t, "p() :- x "+sign+" 1.", clause(atom("p", 0), compare(sign, 7, variable("x", 7), number(1, 10+len(sign)))))
	}
	hasClauses(t, "p() :- _ = \"a\\n\", $A() != x.", clause(atom("p", 0),
		compare("=", 7, anyone(7), text("a\n", 11)), compare("!=", 18, con("A", 18), variable("x", 26))))
	hasClauses(t, "p() :- -x < -1.", clause(atom("p", 0),
		compare("<", 7, op("-", 7, number(0, 7), variable("x", 8)), number(-1, 12))))
}

// argument: the text is that expression, as an atom's argument at the byte 2.
func argument(t *testing.T, s string, want api.Expr) {
	t.Helper()
	hasClauses(t, "p("+s+").", clause(atom("p", 0, want)))
}

// P9.1: the forms of a Factor.
func TestFactors(t *testing.T) {
	argument(t, "0", number(0, 2))
	argument(t, "9223372036854775807", number(9223372036854775807, 2))
	argument(t, `""`, text("", 2))
	argument(t, `"_"`, text("_", 2))
	argument(t, `"$a.b \" \\ \t"`, text("$a.b \" \\ \t", 2))
	argument(t, "x", variable("x", 2))
	argument(t, "__", variable("__", 2))
	argument(t, "_x", variable("_x", 2))
	argument(t, "input", variable("input", 2))
	argument(t, "_", anyone(2))
	argument(t, "$A()", con("A", 2))
	argument(t, "$ A ( 1 , $B(_) )", con("A", 2, number(1, 8), con("B", 12, anyone(15))))
	argument(t, "((x))", variable("x", 4))
}

// P9.1: a `-` directly ahead of a number, a gap between them or not, is a number below 0; ahead of anything else it is an operator.
func TestMinus(t *testing.T) {
	argument(t, "-3", number(-3, 2))
	argument(t, "-0", number(0, 2))
	argument(t, "- /* c */ 3", number(-3, 2))
	argument(t, "-9223372036854775807", number(-9223372036854775807, 2))
	argument(t, "--3", op("-", 2, number(0, 2), number(-3, 3)))
	argument(t, "---3", op("-", 2, number(0, 2), op("-", 3, number(0, 3), number(-3, 4))))
	argument(t, "-(3)", op("-", 2, number(0, 2), number(3, 4)))
	argument(t, "(-3)", number(-3, 3))
	argument(t, "-x", op("-", 2, number(0, 2), variable("x", 3)))
	argument(t, "- x", op("-", 2, number(0, 2), variable("x", 4)))
	argument(t, "-_", op("-", 2, number(0, 2), anyone(3)))
	argument(t, `-"a"`, op("-", 2, number(0, 2), text("a", 3)))
	argument(t, "-$A()", op("-", 2, number(0, 2), con("A", 3)))
	argument(t, "x - 3", op("-", 2, variable("x", 2), number(3, 6)))
	argument(t, "x -3", op("-", 2, variable("x", 2), number(3, 5)))
	argument(t, "1 - -3", op("-", 2, number(1, 2), number(-3, 6)))
	argument(t, "1*-3", op("*", 2, number(1, 2), number(-3, 4)))
	argument(t, "-3*4", op("*", 2, number(-3, 2), number(4, 5)))
	argument(t, "-x*y", op("*", 2, op("-", 2, number(0, 2), variable("x", 3)), variable("y", 5)))
	argument(t, "-x-y", op("-", 2, op("-", 2, number(0, 2), variable("x", 3)), variable("y", 5)))
}

// P9.1: which operators belong together, and what is at which place.
func TestOperators(t *testing.T) {
	for _, sign := range []string{"+", "-", "*", "/", "%"} {
		argument(t, "x"+sign+"y", op(sign, 2, variable("x", 2), variable("y", 4)))
		argument(t, "1"+sign+"2"+sign+"3", op(sign, 2, op(sign, 2, number(1, 2), number(2, 4)), number(3, 6)))
		argument(t, "1"+sign+"(2"+sign+"3)", op(sign, 2, number(1, 2), op(sign, 5, number(2, 5), number(3, 7))))
	}
	for _, sign := range []string{"*", "/", "%"} {
		argument(t, "1+2"+sign+"3", op("+", 2, number(1, 2), op(sign, 4, number(2, 4), number(3, 6))))
		argument(t, "1"+sign+"2-3", op("-", 2, op(sign, 2, number(1, 2), number(2, 4)), number(3, 6)))
	}
	argument(t, "1-2+3", op("+", 2, op("-", 2, number(1, 2), number(2, 4)), number(3, 6)))
	argument(t, "1/2*3%4", op("%", 2, op("*", 2, op("/", 2, number(1, 2), number(2, 4)), number(3, 6)), number(4, 8)))
	argument(t, "(1 + 2) * 3", op("*", 3, op("+", 3, number(1, 3), number(2, 7)), number(3, 12)))
	argument(t, "((1)) + (2)", op("+", 4, number(1, 4), number(2, 11)))
	argument(t, "-(1 + 2)", op("-", 2, number(0, 2), op("+", 4, number(1, 4), number(2, 8))))
	argument(t, "$A(1 + x, -y)", con("A", 2, op("+", 5, number(1, 5), variable("x", 9)), op("-", 12, number(0, 12), variable("y", 13))))
}

// P9.1: a Lit is at its first token, a bracket too; the expression in the bracket is not.
func TestBracketLits(t *testing.T) {
	hasClauses(t, "p() :- (x + 1) < (2).", clause(atom("p", 0),
		compare("<", 7, op("+", 8, variable("x", 8), number(1, 12)), number(2, 18))))
}

// P9.1: as many operands as the text has room for lie side by side, not within one another.
func TestLongExpressions(t *testing.T) {
	sum := "p(" + times(api.MaxText/2-2, "1", "+") + ")."
	if got, fault := Parse(sum); fault != (api.Fault{}) || !Same(got, got) {
		t.Errorf("a sum of %d bytes: %v", len(sum), fault)
	}
	taken(t, "p("+times(300, "1*x/y", "%")+").")
	taken(t, ".type T = "+times(300, "A {}", "|"))
	taken(t, ".comp C : "+times(300, "D", ",")+" {}")
	taken(t, ".decl a() "+times(300, "input", " "))
}

// P9.1: how many Fields and Exprs there may be; one more counts, whatever stands there.
func TestWidth(t *testing.T) {
	for _, c := range []struct{ open, part, closing string }{
		{".decl a(", "x: number", ")"},
		{".type T = A {", "x: number", "}"},
		{".type T = B {} | A {", "x: b.c", "} | C {}"},
		{"p(", "x", ")."},
		{"p(", "1 + 2", ")."},
		{"p() :- q(", "x", ")."},
		{"p() :- !q(", "x", ")."},
		{"p($A(", "x", "))."},
		{"p() :- $A(", "(x)", ") = 1."},
	} {
		full := c.open + times(api.MaxWidth, c.part, ", ")
		taken(t, full+c.closing)
		for _, next := range []string{c.part + c.closing, c.closing, ",", ")", "}", "(", "a.b", "_", "\"a\"", "1", ".decl", ".", ""} {
			fails(t, full+", ^"+next, api.ErrMany)
		}
		fails(t, full+" ^= a", api.ErrTok)
	}
}

// P9.1: each list is counted on its own.
func TestWidthOfEach(t *testing.T) {
	fields, exprs := times(api.MaxWidth, "x: t", ","), times(api.MaxWidth, "x", ",")
	taken(t, ".type T = A {"+fields+"} | B {"+fields+"} .decl a("+fields+") .decl b("+fields+")")
	taken(t, "p("+exprs+") :- q("+exprs+"), !r("+exprs+"), $A("+exprs+") = $B("+times(api.MaxWidth, "$C("+exprs+")", ",")+").")
}

// P9.1: how many Lits a clause may have.
func TestBody(t *testing.T) {
	for _, part := range []string{"q()", "!q(x)", "x < y + 1", "a.b(1)"} {
		full := "p() :- " + times(api.MaxBody, part, ", ")
		taken(t, full+".")
		taken(t, full+". "+full+".")
		for _, next := range []string{part + ".", "", ",", ".", "!", "a.b", "1", "(", ")", "}", ".comp"} {
			fails(t, full+", ^"+next, api.ErrMany)
		}
		fails(t, full+" ^) a", api.ErrTok)
	}
}

// P9.1: how many items a program may have, those in components too.
func TestItems(t *testing.T) {
	for _, part := range []string{"p(). ", ".decl a() ", ".decl a() input ", ".type A <: B ", ".type A = B {} ", ".init a = B ", ".comp C {} "} {
		full := strings.Repeat(part, api.MaxRules)
		taken(t, full)
		for _, next := range []string{part, "x", ".", ")", "}", "_", "1", "\"a\"", ".comp", "a.b"} {
			fails(t, full+"^"+next, api.ErrMany)
		}
		taken(t, ".comp C { "+strings.Repeat(part, api.MaxRules-1)+"}")
		taken(t, ".comp C { "+strings.Repeat(part, 40)+".comp D { "+strings.Repeat(part, 40)+"} "+strings.Repeat(part, 10)+"} "+strings.Repeat(part, 4))
		fails(t, ".comp C { "+full[:len(part)*(api.MaxRules-1)]+"} ^"+part, api.ErrMany)
		fails(t, ".comp C { "+strings.Repeat(part, 40)+".comp D { "+strings.Repeat(part, 40)+"} "+strings.Repeat(part, 10)+"} "+strings.Repeat(part, 4)+"^"+part, api.ErrMany)
		// In a component the text's end is no end, so that one more would begin there.
		for _, next := range []string{part, "x", ".", ")", "1", ".comp", ""} {
			fails(t, ".comp C { "+full[:len(part)*(api.MaxRules-1)]+"^"+next, api.ErrMany)
		}
	}
	// What goes on with the last item does not begin one more.
	taken(t, strings.Repeat("p(). ", api.MaxRules-1)+".decl a() output input")
	taken(t, strings.Repeat("p(). ", api.MaxRules-1)+".type A = B {} | C {}")
	fails(t, strings.Repeat("p(). ", api.MaxRules-1)+".decl a() ^input()", api.ErrMany)
	fails(t, strings.Repeat("p(). ", api.MaxRules-1)+"p^", api.ErrTok)
}

// P9.1: in how many others an Expr, a Factor and a component may lie.
func TestDeep(t *testing.T) {
	brackets := func(n int, s string) string { return strings.Repeat("(", n) + s + strings.Repeat(")", n) }
	// Each bracket is a Factor with an Expr in it.
	taken(t, "p("+brackets(15, "x")+").")
	fails(t, "p("+strings.Repeat("(", 16)+"^x", api.ErrDeep)
	fails(t, "p("+strings.Repeat("(", 16)+"^x"+strings.Repeat(")", 16)+").", api.ErrDeep)
	// Each `-` is a Factor with a Factor in it.
	taken(t, "p("+strings.Repeat("-", 30)+"x).")
	fails(t, "p("+strings.Repeat("-", 31)+"^x).", api.ErrDeep)
	taken(t, "p("+strings.Repeat("-", 30)+"3).")
	fails(t, "p("+strings.Repeat("-", 31)+"^3).", api.ErrDeep)
	taken(t, "p("+strings.Repeat("(", 15)+"x*y+z%$A()"+strings.Repeat(")", 15)+").")
	fails(t, "p("+strings.Repeat("(", 15)+"x*y+-^z", api.ErrDeep)
	fails(t, "p("+strings.Repeat("(", 15)+"x*y+$A(^1", api.ErrDeep)
	// Constructors too.
	taken(t, "p("+strings.Repeat("$A(", 16)+strings.Repeat(")", 16)+").")
	taken(t, "p("+strings.Repeat("$A(1, ", 15)+"x"+strings.Repeat(")", 15)+").")
	fails(t, "p("+strings.Repeat("$A(", 16)+"^x", api.ErrDeep)
	// Components.
	taken(t, strings.Repeat(".comp C { ", 32)+"p()."+strings.Repeat("} ", 32))
	fails(t, strings.Repeat(".comp C { ", 32)+"^.comp C {", api.ErrDeep)
	fails(t, strings.Repeat(".comp C { ", 32)+"^.comp", api.ErrDeep)
	taken(t, strings.Repeat(".comp C { ", 31)+".comp D {} .comp E { q(). } p()."+strings.Repeat("} ", 31))
	// And what lies in components.
	fails(t, strings.Repeat(".comp C { ", 32)+"p(^x", api.ErrDeep)
	fails(t, strings.Repeat(".comp C { ", 31)+"p(^x", api.ErrDeep)
	taken(t, strings.Repeat(".comp C { ", 30)+"p(x, y) :- x = 1, !q(z)."+strings.Repeat("}", 30))
	fails(t, strings.Repeat(".comp C { ", 30)+"p(-^x", api.ErrDeep)
	// 20 components, an Expr, a `$`, an Expr, a `-`, a `(`, an Expr, two `-`, a `(`, an Expr, a `(`: an Expr within 31, and its Factor.
	fails(t, strings.Repeat(".comp C { ", 20)+"p($A(-(--(x + (^x)))))", api.ErrDeep)
	taken(t, strings.Repeat(".comp C { ", 19)+"p($A(-(--(x + (x)))))."+strings.Repeat("}", 19))
}

// P9.1: where one more would begin it is too deep, whatever stands there.
func TestDeepWhatever(t *testing.T) {
	within := strings.Repeat(".comp C { ", 32)
	for _, next := range []string{"x", "1", "\"a\"", "_", "a.b", "-", "(", "$", ",", "}", ".", ":-", ".comp", ""} {
		fails(t, "p("+strings.Repeat("(", 16)+"^"+next, api.ErrDeep)
		fails(t, "p("+strings.Repeat("-", 31)+"^"+next, api.ErrDeep)
		fails(t, "p("+strings.Repeat("$A(", 16)+"^"+next, api.ErrDeep)
		fails(t, within+"p(^"+next, api.ErrDeep)
		fails(t, within+"p() :- q(), ^"+next, api.ErrDeep)
	}
	// Only `.comp` begins a component.
	taken(t, within+".type A <: B .decl a(b: c) .init a = B p() :- q(), !r()."+strings.Repeat("}", 32))
	fails(t, within+"^)", api.ErrTok)
	fails(t, within+"^", api.ErrTok)
}

// P9.1: what is closed counts no more.
func TestDeepSideBySide(t *testing.T) {
	deep := strings.Repeat("(", 15) + "x" + strings.Repeat(")", 15)
	taken(t, "p("+deep+" + "+deep+", "+deep+") :- "+deep+" < "+deep+", q("+deep+"), !q("+deep+"), "+deep+" * "+deep+" = "+deep+".")
	minus := strings.Repeat("-", 30)
	taken(t, "p("+minus+"1 + "+minus+"2 * "+minus+"x, "+minus+"$A(), "+minus+"_).")
	taken(t, strings.Repeat(strings.Repeat(".comp C { ", 32)+strings.Repeat("} ", 32), 3))
	comps := strings.Repeat(".comp C { ", 10) + strings.Repeat("} ", 10)
	taken(t, comps+"p("+deep+").")
}

// P9.1: of several faults at one token ErrMany comes first, then ErrDeep, then ErrTok; of several tokens the first.
func TestSeveral(t *testing.T) {
	wide := times(api.MaxWidth, "x", ", ")
	// An Expr that would be too many and too deep can't be: one ahead of it would be too deep. A component can.
	within := strings.Repeat(".comp C { ", 32)
	fails(t, strings.Repeat("p(). ", api.MaxRules-32)+within+"^.comp", api.ErrMany)
	fails(t, strings.Repeat("p(). ", api.MaxRules-33)+within+"^.comp", api.ErrDeep)
	// A Lit that would be too many, and its Expr too deep.
	fails(t, within+"p() :- "+times(api.MaxBody, "q()", ", ")+", ^x < 1.", api.ErrMany)
	fails(t, within+"p() :- "+times(api.MaxBody, "q()", ", ")+", ^)", api.ErrMany)
	fails(t, within+"p() :- "+times(api.MaxBody-1, "q()", ", ")+", ^)", api.ErrDeep)
	fails(t, within[10:]+"p() :- "+times(api.MaxBody-1, "q()", ", ")+", ^)", api.ErrDeep)
	fails(t, within[20:]+"p() :- "+times(api.MaxBody-1, "q()", ", ")+", ^)", api.ErrTok)
	// Several tokens.
	fails(t, "p("+wide+", ^x) :- "+times(api.MaxBody+1, "q()", ", ")+".", api.ErrMany)
	fails(t, "p(^+) :- q("+wide+", x).", api.ErrTok)
	fails(t, "p("+wide+", ^x, "+strings.Repeat("(", 40)+" . .", api.ErrMany)
	fails(t, "p("+strings.Repeat("(", 16)+"^x, "+wide+", x .", api.ErrDeep)
	fails(t, "p(x ^x "+strings.Repeat("(", 40)+wide+", x .", api.ErrTok)
	fails(t, "p("+strings.Repeat("(", 16)+"^. "+strings.Repeat("p(). ", api.MaxRules+1), api.ErrDeep)
	fails(t, strings.Repeat("p(). ", api.MaxRules)+"^) p("+wide+", x).", api.ErrMany)
	fails(t, strings.Repeat("p(). ", api.MaxRules-1)+"^) p("+wide+", x).", api.ErrTok)
}

// P9.1: layer 8's faults are told ahead of all others.
func TestTokenFaults(t *testing.T) {
	fails(t, ") ) ^;", api.ErrForm)
	fails(t, strings.Repeat("(", 40)+" 0^1", api.ErrForm)
	fails(t, strings.Repeat("p(). ", api.MaxRules+1)+"^\"a", api.ErrForm)
	fails(t, ") ^9223372036854775808", api.ErrOver)
	fails(t, "p(-^9223372036854775808).", api.ErrOver)
	fails(t, ". ^"+strings.Repeat("a", api.MaxName+1), api.ErrLong)
	fails(t, ". p(^"+strings.Repeat("a.", api.MaxName/2)+"a", api.ErrLong)
	fails(t, "^)"+strings.Repeat(" ", api.MaxText), api.ErrLong)
	fails(t, "^"+strings.Repeat("p(). ", api.MaxText/5)+"  ", api.ErrLong)
	fails(t, "^)"+strings.Repeat(" ", api.MaxText-1), api.ErrTok)
	taken(t, strings.Repeat("a", api.MaxName)+"().")
}

// P9.1: the text's end is its length, whatever gaps stand ahead of it.
func TestTextEnd(t *testing.T) {
	fails(t, "p^", api.ErrTok)
	fails(t, "p( \n\n^", api.ErrTok)
	fails(t, "p(x) // c^", api.ErrTok)
	fails(t, "p(x) /* c */^", api.ErrTok)
	fails(t, ".comp C {  ^", api.ErrTok)
	fails(t, "p("+times(api.MaxWidth, "x", ",")+", // c^", api.ErrMany)
	fails(t, "p("+strings.Repeat("(", 16)+" /* c */ ^", api.ErrDeep)
}

// P9.1, P9.3: each kind of token at each place of the grammar: what is wrong there is told at it, whatever stands further behind.
func TestWrongTokens(t *testing.T) {
	for _, c := range []struct{ s, right string }{
		// What is right where the text ends, beside which all else is wrong; the words are kinds.
		{"", "name .type .decl .comp .init end"},
		{"p().", "name .type .decl .comp .init end"},
		{".type", "word"}, {".type A", "<: ="}, {".type A <:", "name"}, {".type A <: B", "name .type .decl .comp .init end"},
		{".type A =", "word"}, {".type A = B", "{"}, {".type A = B {", "word }"}, {".type A = B { x", ":"}, {".type A = B { x :", "name"},
		{".type A = B { x : y", ", }"}, {".type A = B { x : y ,", "word"}, {".type A = B { }", "| name .type .decl .comp .init end"}, {".type A = B { } |", "word"},
		{".decl", "word"}, {".decl a", "("}, {".decl a (", "word )"}, {".decl a ( x", ":"}, {".decl a ( x :", "name"}, {".decl a ( x : y", ", )"},
		{".decl a ( x : y ,", "word"}, {".decl a ( )", "name .type .decl .comp .init end"}, {".decl a ( ) input", "( name .type .decl .comp .init end"},
		{".comp", "word"}, {".comp A", ": {"}, {".comp A :", "name"}, {".comp A : B", ", {"}, {".comp A : B ,", "name"},
		{".comp A {", "name .type .decl .comp .init }"}, {".comp A { p().", "name .type .decl .comp .init }"}, {".comp A { }", "name .type .decl .comp .init end"},
		{".init", "word"}, {".init a", "="}, {".init a =", "name"}, {".init a = b", "name .type .decl .comp .init end"},
		{"p", "("}, {"p (", "word _ num text - ( $ )"}, {"p ( )", ":- ."}, {"p ( x", ", ) + - * / %"}, {"p ( x ,", "word _ num text - ( $"},
		{"p() :-", "! word _ num text - ( $"}, {"p() :- !", "name"}, {"p() :- ! q", "("}, {"p() :- ! q (", "word _ num text - ( $ )"}, {"p() :- ! q ( )", ", ."},
		{"p() :- q ( )", ", ."}, {"p() :- q ( ) ,", "! word _ num text - ( $"},
		{"p() :- x", "( + - * / % = != < <= > >="}, {"p() :- x <", "word _ num text - ( $"}, {"p() :- x < 1", ", . + - * / %"},
		{"p() :- 1", "+ - * / % = != < <= > >="}, {"p() :- x < y", ", . + - * / %"}, {"p() :- (x)", "+ - * / % = != < <= > >="},
		{"p ( -", "word _ num text - ( $"}, {"p ( - 1", ", ) + - * / %"}, {"p ( (", "word _ num text - ( $"}, {"p ( ( x", ") + - * / %"}, {"p ( ( x )", ", ) + - * / %"},
		{"p ( $", "word"}, {"p ( $ A", "("}, {"p ( $ A (", "word _ num text - ( $ )"}, {"p ( $ A ( x", ", ) + - * / %"}, {"p ( $ A ( x ,", "word _ num text - ( $"}, {"p ( $ A ( )", ", ) + - * / %"},
		{"p ( x +", "word _ num text - ( $"}, {"p ( x *", "word _ num text - ( $"}, {"p ( x + y", ", ) + - * / %"}, {"p ( x * y", ", ) + - * / %"},
	} {
		wrongBehind(t, c.s, " "+c.right+" ")
	}
}

// kinds are the kinds of tokens, each with a token.
var kinds = [][2]string{
	{"name", "a.b"}, {"name", "a"}, {"name", "_"}, {"num", "7"}, {"text", `"a"`}, {"end", ""},
	{".decl", ".decl"}, {".type", ".type"}, {".comp", ".comp"}, {".init", ".init"}, {":-", ":-"}, {"<:", "<:"}, {"<=", "<="}, {">=", ">="}, {"!=", "!="},
	{"(", "("}, {")", ")"}, {"{", "{"}, {"}", "}"}, {",", ","}, {".", "."}, {":", ":"}, {"|", "|"}, {"!", "!"}, {"=", "="}, {"<", "<"}, {">", ">"},
	{"+", "+"}, {"-", "-"}, {"*", "*"}, {"/", "/"}, {"%", "%"}, {"$", "$"},
}

// wrongBehind: each token that is not among the right ones is wrong behind a text, and no other.
func wrongBehind(t *testing.T, s, right string) {
	t.Helper()
	for _, k := range kinds {
		isRight := strings.Contains(right, " "+k[0]+" ") ||
			k[1] == "a" && strings.Contains(right, " word ") || k[1] == "_" && strings.Contains(right, " _ ")
		for _, behind := range []string{"", " ", " x", " 1 .", " . (", " ) x"} {
			got, fault := Parse(s + " " + k[1] + behind)
			at := len(s) + 1
			if k[0] == "end" && behind != "" && behind != " " {
				continue
			}
			if k[0] == "end" && !isRight {
				at = len(s) + 1 + len(behind)
			}
			wrong := fault.Why == api.ErrTok && fault.At == at
			if isRight && wrong && k[0] != "end" || !isRight && !wrong {
				t.Errorf("%q behind %q, ahead of %q: %v, want it right: %v", k[1], s, behind, fault, isRight)
			}
			if fault.Why != api.OK && !reflect.DeepEqual(got, api.Prog{}) {
				t.Errorf("%q: a program beside %v", s+" "+k[1]+behind, fault)
			}
		}
	}
}

// P9.1: a text is no sign and no word, and a sign no text.
func TestTextIsNoSign(t *testing.T) {
	for _, s := range []string{`^"p"().`, `p^"("x).`, `p(x^")".`, `^".decl" a()`, `.type A ^"=" B {}`, `p() :- "!" ^q().`, `p() :- x ^"<" y.`, `p(x ^"+" y).`, `.init a = ^"b"`, `.comp A { ^"}"`} {
		fails(t, s, api.ErrTok)
	}
	argument(t, `"-"`, text("-", 2))
	argument(t, `"(" + ")"`, op("+", 2, text("(", 2), text(")", 8)))
}

// P9.1: a name with a point is an Atom where `(` stands behind it, and else no Factor.
func TestPoints(t *testing.T) {
	hasClauses(t, "p() :- a.b (x).", clause(atom("p", 0), is(atom("a.b", 7, variable("x", 12)))))
	fails(t, "p() :- ^a.b < 1.", api.ErrTok)
	fails(t, "p() :- ^a.b", api.ErrTok)
	fails(t, "p() :- ^a.b \"(\".", api.ErrTok)
	fails(t, "p() :- 1 < ^a.b.", api.ErrTok)
	fails(t, "p() :- 1 < ^a.b(x).", api.ErrTok)
	fails(t, "p() :- x + ^a.b(x).", api.ErrTok)
	fails(t, "p() :- -^a.b(x).", api.ErrTok)
	fails(t, "p(^a.b).", api.ErrTok)
	fails(t, "p(^a.b(x)).", api.ErrTok)
	fails(t, "p(x^(x)).", api.ErrTok)
	fails(t, "p() :- q(x) ^< 1.", api.ErrTok)
	fails(t, "p() :- (q^(x)) < 1.", api.ErrTok)
	fails(t, "p() :- x < q^(x).", api.ErrTok)
	fails(t, "p() :- !a.b^.", api.ErrTok)
	fails(t, "p($^a.b()).", api.ErrTok)
	fails(t, "p($^_()).", api.ErrTok)
	for _, s := range []string{".type ^a.b <: C", ".type A = ^b.c {}", ".type A = B {^x.y: z}", ".decl ^a.b()", ".decl a(^x.y: z)", ".comp ^a.b {}", ".init ^a.b = C"} {
		fails(t, s, api.ErrTok)
		taken(t, strings.NewReplacer("^", "", "a.b", "a", "b.c", "b", "x.y", "x").Replace(s))
		fails(t, strings.NewReplacer("a.b", "_", "b.c", "_", "x.y", "_").Replace(s), api.ErrTok)
	}
}

// P9.1: numbers and texts keep what they are, and a clause as many places as the text has.
func TestPlaces(t *testing.T) {
	for _, gap := range []string{"", " ", "\n\n", "// c\n", "/* p(). */\t"} {
		at := len(gap)
		hasClauses(t, gap+"p(1)."+gap, clause(atom("p", at, number(1, at+2))))
	}
	for n := range 40 {
		argument(t, strings.Repeat(" ", n)+strconv.Itoa(n), number(n, n+2))
	}
}
