package show

import (
	"math"
	"strings"
	"testing"

	"vestry/api"
	"vestry/syn"
)

// parts is how many parts an expression or a program has at most, by the document's bound.
const parts = 1 << 16

// P10.1: a text of MaxText bytes, and of one more, whichever part has them.
func TestLength(t *testing.T) {
	for what, make := range map[string]func(n int) api.Prog{
		"a text": func(n int) api.Prog { return fact(text(strings.Repeat("a", n))) },
		"quotes": func(n int) api.Prog { return fact(text(strings.Repeat(`"`, n/2) + strings.Repeat("a", n%2))) },
		"a last clause": func(n int) api.Prog {
			return clauses(clause(atom("q", text(strings.Repeat("a", n)))), clause(atom("p")))
		},
		"a comparison": func(n int) api.Prog {
			return clauses(clause(atom("p"), compare("=", text(strings.Repeat("a", n/2)), text(strings.Repeat("a", n-n/2)))))
		},
		"a component": func(n int) api.Prog {
			return comps(api.Comp{Name: "C", Body: fact(text(strings.Repeat("a", n)))}, api.Comp{Name: "D"})
		},
		"constructors": func(n int) api.Prog {
			return types(api.TypeDecl{Name: strings.Repeat("T", n%7+1), Ctors: times(n/7, api.Ctor{Name: "A"})})
		},
		"Bases": func(n int) api.Prog {
			return comps(api.Comp{Name: strings.Repeat("C", n%3+1), Bases: times(n/3, "B")})
		},
	} {
		short, e := Show(make(6000))
		if e != api.OK {
			t.Fatal(what, e)
		}
		full := api.MaxText - len(short) + 6000
		got, e := Show(make(full))
		if e != api.OK || len(got) != api.MaxText {
			t.Errorf("%s: %d bytes %v", what, len(got), e)
		}
		if again, fault := syn.Parse(got); fault != (api.Fault{}) || !syn.Same(again, make(full)) {
			t.Errorf("%s: read as another program, %v", what, fault)
		}
		formats(t, got, got)
		refused(t, what, make(full+1), api.ErrLong)
		refused(t, what, make(full+2), api.ErrLong)
	}
}

// P10.2: a program that was read, and is written as a longer text: {ErrLong, 0}.
func TestFormatLonger(t *testing.T) {
	// Two bytes come to it: the blank behind the sign between arguments, and the line's end.
	line := func(n int) string { return "p(\"" + strings.Repeat("a", n-8) + "\",1)." }
	formats(t, line(api.MaxText-2), "p(\""+strings.Repeat("a", api.MaxText-10)+"\", 1).\n")
	faults(t, line(api.MaxText-1), api.ErrLong, 0)
	faults(t, line(api.MaxText), api.ErrLong, 0)
	faults(t, line(api.MaxText+1), api.ErrLong, 0)
	formats(t, ".type T="+strings.Repeat("A{}|", 8000)+"A{}", ".type T = "+strings.Repeat("A {} | ", 8000)+"A {}\n")
	faults(t, ".type T="+strings.Repeat("A{}|", 16000)+"A{}", api.ErrLong, 0)
	faults(t, "p("+strings.Repeat("1+", api.MaxText/2-3)+"1).", api.ErrLong, 0)
}

// P10.2: a program that was read, and whose text is too deep to be read: {ErrArg, 0}.
func TestFormatDeeper(t *testing.T) {
	formats(t, "p(1+1"+strings.Repeat("+1", 15)+").", "p("+strings.Repeat("(", 15)+"1 + 1"+strings.Repeat(") + 1", 15)+").\n")
	faults(t, "p(1+1"+strings.Repeat("+1", 16)+").", api.ErrArg, 0)
	faults(t, "p(1+1"+strings.Repeat("*1", 16)+").", api.ErrArg, 0)
	faults(t, "p(1+1"+strings.Repeat("+1", 9000)+").", api.ErrArg, 0)
	faults(t, "p(1+1"+strings.Repeat("+1", 12000)+").", api.ErrLong, 0)
	faults(t, "p("+strings.Repeat("-", 20)+"x).", api.ErrArg, 0)
}

// P10.1: a text that layer 3 writes as `?` is read as nothing; one with as many bytes as it may have is too long with its quotes.
func TestLongTexts(t *testing.T) {
	refused(t, "MaxText bytes", fact(text(strings.Repeat("a", api.MaxText))), api.ErrLong)
	refused(t, "one more", fact(text(strings.Repeat("a", api.MaxText+1))), api.ErrArg)
}

// within: an expression in n others, each made of the one inside.
func within(n int, x api.Expr, around func(api.Expr) api.Expr) api.Expr {
	for range n {
		x = around(x)
	}
	return x
}

// inComps: a program in n components.
func inComps(n int, p api.Prog) api.Prog {
	for range n {
		p = comps(api.Comp{Name: "C", Body: p})
	}
	return p
}

// P10.3: at most 4 components, and at most 8 operators and constructors, within one another, in every mixture, are taken, and Parse of Show is the program.
func TestDepthTaken(t *testing.T) {
	x := variable("x")
	arounds := []func(api.Expr) api.Expr{
		func(k api.Expr) api.Expr { return op("-", k, x) },
		func(k api.Expr) api.Expr { return op("*", x, k) },
		func(k api.Expr) api.Expr { return con("A", x, k) },
	}
	leaves := []api.Expr{number(-1), text("a"), x, anyone(), number(math.MaxInt64)}
	for mixture := range 3 * 3 * 3 * 3 * 3 * 3 * 3 * 3 {
		nested, rest := leaves[mixture%len(leaves)], mixture
		for range 8 {
			nested, rest = arounds[rest%3](nested), rest/3
		}
		p := inComps(4, clauses(clause(atom("p", nested), not(atom("q", nested)), compare("<", nested, nested))))
		s, e := Show(p)
		if again, fault := syn.Parse(s); e != api.OK || fault != (api.Fault{}) || !syn.Same(again, p) {
			t.Fatalf("mixture %d: %q %v, read as another program, %v", mixture, s, e, fault)
		}
		formats(t, s, s)
	}
}

// P10.1: how deep things may lie within one another: as deep as layer 9 reads their text.
func TestDepth(t *testing.T) {
	x := variable("x")
	left := func(k api.Expr) api.Expr { return op("+", k, x) }
	right := func(k api.Expr) api.Expr { return op("+", x, k) }
	inner := func(k api.Expr) api.Expr { return con("A", k) }
	for n := 1; n <= 40; n++ {
		for comps := range 6 {
			// Each operator and each constructor is an Expr in a Factor; what is innermost is an Expr and a Factor, too.
			why := api.OK
			if comps+2*n > api.MaxDeep {
				why = api.ErrArg
			}
			for what, p := range map[string]api.Prog{
				"left":        fact(within(n, x, left)),
				"right":       fact(within(n, x, right)),
				"inner":       fact(within(n-1, x, inner)),
				"inner empty": fact(within(n-1, con("B"), inner)),
				"on the left": clauses(clause(atom("p"), compare("=", within(n, x, right), x))),
			} {
				s, e := Show(inComps(comps, p))
				if e != why || (s == "") != (e != api.OK) {
					t.Errorf("%s %d in %d components: %.60q %v, want %v", what, n, comps, s, e, why)
				}
			}
		}
		why := api.OK
		if n > api.MaxDeep {
			why = api.ErrArg
		}
		if s, e := Show(inComps(n, api.Prog{})); e != why || e == api.OK && s != strings.Repeat(".comp C {\n", n)+strings.Repeat("}\n", n) {
			t.Errorf("%d components: %.60q %v, want %v", n, s, e, why)
		}
	}
}

// P10.1: parts by the number: one more than layer 9 reads is ErrArg.
func TestTooMany(t *testing.T) {
	field, x := api.Field{Name: "x", Type: "t"}, variable("x")
	wide := func(n int) map[string]api.Prog {
		return map[string]api.Prog{
			"Fields of a constructor":    types(api.TypeDecl{Name: "T", Ctors: []api.Ctor{{Name: "A"}, {Name: "B", Fields: times(n, field)}}}),
			"columns":                    decls(api.Decl{Name: "d", Cols: times(n, field)}),
			"Exprs of a head":            clauses(clause(atom("p", times(n, x)...))),
			"Exprs of an atom":           clauses(clause(atom("p"), is(atom("q", times(n, x)...)))),
			"Exprs of a not":             clauses(clause(atom("p"), not(atom("q", times(n, x)...)))),
			"Exprs of a constructor":     fact(con("A", times(n, x)...)),
			"Exprs in a component":       inComps(2, fact(con("A", times(n, x)...))),
			"Exprs of a side, on the ..": clauses(clause(atom("p"), compare("<", x, op("+", con("A", times(n, x)...), x)))),
		}
	}
	for what, p := range wide(api.MaxWidth) {
		if s, e := Show(p); s == "" || e != api.OK {
			t.Errorf("%s: %v", what, e)
		}
	}
	for _, n := range []int{api.MaxWidth + 1, 100, 5000} {
		for what, p := range wide(n) {
			refused(t, what, p, api.ErrArg)
		}
	}
	for _, n := range []int{api.MaxBody + 1, 100, 3000} {
		for what, l := range map[string]api.Lit{"atoms": is(atom("q")), "nots": not(atom("q")), "comparisons": compare("<", x, x)} {
			refused(t, what, clauses(clause(atom("p"), times(n, l)...)), api.ErrArg)
		}
	}
}

// P10.1: MaxRules items in all, those within components too.
func TestTooManyItems(t *testing.T) {
	for _, n := range []int{api.MaxRules - 1, api.MaxRules, api.MaxRules + 1, 2 * api.MaxRules, 4000} {
		why := api.OK
		if n > api.MaxRules {
			why = api.ErrArg
		}
		for what, p := range map[string]api.Prog{
			"types":      types(times(n, api.TypeDecl{Name: "A", Sub: "B"})...),
			"relations":  decls(times(n, api.Decl{Name: "d"})...),
			"components": comps(times(n, api.Comp{Name: "C"})...),
			"instances":  inits(times(n, api.Init{Name: "i", Comp: "C"})...),
			"clauses":    clauses(times(n, clause(atom("p")))...),
			"in two":     inComps(2, clauses(times(n-2, clause(atom("p")))...)),
			"of each":    {Types: times(n-4, api.TypeDecl{Name: "A", Sub: "B"}), Decls: []api.Decl{{Name: "d"}}, Comps: []api.Comp{{Name: "C"}}, Inits: []api.Init{{Name: "i", Comp: "C"}}, Clauses: []api.Clause{clause(atom("p"))}},
		} {
			if s, e := Show(p); e != why || (s == "") != (e != api.OK) {
				t.Errorf("%d %s: %v, want %v", n, what, e, why)
			}
		}
	}
}

// P10.1: of two errors the one that is named first: a text that is too long, of a program that no text is read as.
func TestLongAhead(t *testing.T) {
	long := strings.Repeat("x", api.MaxText)
	for what, p := range map[string]api.Prog{
		"a variable":       fact(variable(long)),
		"a type":           types(api.TypeDecl{Name: long, Sub: "B"}),
		"a type above":     types(api.TypeDecl{Name: "A", Sub: long}),
		"a constructor":    types(api.TypeDecl{Name: "A", Ctors: []api.Ctor{{Name: long}}}),
		"a field":          types(api.TypeDecl{Name: "A", Ctors: []api.Ctor{{Name: "B", Fields: []api.Field{{Name: long, Type: "t"}}}}}),
		"a field's type":   types(api.TypeDecl{Name: "A", Ctors: []api.Ctor{{Name: "B", Fields: []api.Field{{Name: "x", Type: long}}}}}),
		"a relation":       decls(api.Decl{Name: long}),
		"a column":         decls(api.Decl{Name: "d", Cols: []api.Field{{Name: long, Type: "t"}}}),
		"a component":      comps(api.Comp{Name: long}),
		"a base":           comps(api.Comp{Name: "C", Bases: []string{"D", long}}),
		"an instance":      inits(api.Init{Name: long, Comp: "C"}),
		"an instance's":    inits(api.Init{Name: "i", Comp: long}),
		"a head":           clauses(clause(atom(long))),
		"an atom":          clauses(clause(atom("p"), is(atom(long)))),
		"a not":            clauses(clause(atom("p"), not(atom(long)))),
		"a comparison":     clauses(clause(atom("p"), compare(long, number(1), number(2)))),
		"an operator":      fact(op(long, number(1), number(2))),
		"a constructor's":  fact(con(long)),
		"two halves":       fact(op("+", variable(long[:api.MaxText/2]), variable(long[api.MaxText/2:]))),
		"behind a wrong":   clauses(clause(atom("p", api.Expr{}), api.Lit{}), clause(atom(long))),
		"ahead of a wrong": clauses(clause(atom("p", text(long), api.Expr{}), api.Lit{})),
		"too many items":   clauses(times(api.MaxText/5+1, clause(atom("p")))...),
		"too many Exprs":   clauses(clause(atom("p", times(api.MaxText/3, number(1))...))),
		"too many Lits":    clauses(clause(atom("p"), times(api.MaxText/5, is(atom("q")))...)),
	} {
		refused(t, what, p, api.ErrLong)
	}
}

// P10.1: names that are none, and names with points where a word must stand.
func TestWrongNames(t *testing.T) {
	x := number(1)
	words := map[string]func(s string) api.Prog{
		"a type":        func(s string) api.Prog { return types(api.TypeDecl{Name: s, Sub: "B"}) },
		"a constructor": func(s string) api.Prog { return types(api.TypeDecl{Name: "A", Ctors: []api.Ctor{{Name: s}}}) },
		"a field": func(s string) api.Prog {
			return types(api.TypeDecl{Name: "A", Ctors: []api.Ctor{{Name: "B", Fields: []api.Field{{Name: s, Type: "t"}}}}})
		},
		"a relation":      func(s string) api.Prog { return decls(api.Decl{Name: s}) },
		"a column":        func(s string) api.Prog { return decls(api.Decl{Name: "d", Cols: []api.Field{{Name: s, Type: "t"}}}) },
		"a component":     func(s string) api.Prog { return comps(api.Comp{Name: s}) },
		"an instance":     func(s string) api.Prog { return inits(api.Init{Name: s, Comp: "C"}) },
		"a variable":      func(s string) api.Prog { return fact(variable(s)) },
		"a constructor's": func(s string) api.Prog { return fact(con(s, x)) },
	}
	names := map[string]func(s string) api.Prog{
		"a type above": func(s string) api.Prog { return types(api.TypeDecl{Name: "A", Sub: s}) },
		"a field's type": func(s string) api.Prog {
			return types(api.TypeDecl{Name: "A", Ctors: []api.Ctor{{Name: "B", Fields: []api.Field{{Name: "x", Type: s}}}}})
		},
		"a column's":    func(s string) api.Prog { return decls(api.Decl{Name: "d", Cols: []api.Field{{Name: "x", Type: s}}}) },
		"a base":        func(s string) api.Prog { return comps(api.Comp{Name: "C", Bases: []string{"D", s}}) },
		"an instance's": func(s string) api.Prog { return inits(api.Init{Name: "i", Comp: s}) },
		"a head":        func(s string) api.Prog { return clauses(clause(atom(s))) },
		"an atom":       func(s string) api.Prog { return clauses(clause(atom("p"), is(atom(s)))) },
		"a not":         func(s string) api.Prog { return clauses(clause(atom("p"), not(atom(s)))) },
	}
	takes := func(what string, make func(string) api.Prog, s string) {
		if got, e := Show(make(s)); got == "" || e != api.OK {
			t.Errorf("%s %q: %v", what, s, e)
		}
	}
	none := []string{
		"", " ", "1", "1a", "a b", " a", "a ", "a.", ".a", "a..b", "a.1", "-", "a-b", "\u00e4", "a\x00", "(", ")", "a()", "\"a\"", "\n", "a\n", ".decl", "a // c", "a /* c */", "$a", "!a", "?",
		strings.Repeat("n", api.MaxName+1), strings.Repeat("n.", api.MaxName/2) + "n",
	}
	for what, make := range words {
		for _, s := range append(none, "_", "a.b", "_._", "a.b.c") {
			refused(t, what+" "+s, make(s), api.ErrArg)
		}
		for _, s := range []string{"a", "_1", "input", strings.Repeat("n", api.MaxName)} {
			takes(what, make, s)
		}
	}
	for what, make := range names {
		for _, s := range none {
			refused(t, what+" "+s, make(s), api.ErrArg)
		}
		for _, s := range []string{"a", "_", "a.b", "_._", "a.b.c", "output", strings.Repeat("n", api.MaxName), strings.Repeat("n.", api.MaxName/2-1) + "nn"} {
			takes(what, make, s)
		}
	}
}

// P10.1: texts in the place of names that are read as something else there.
func TestSmuggled(t *testing.T) {
	for what, p := range map[string]api.Prog{
		"two relations":     decls(api.Decl{Name: "a() .decl b"}),
		"a relation's word": decls(api.Decl{Name: "a() input .decl b", Input: true}),
		"columns":           decls(api.Decl{Name: "d", Cols: []api.Field{{Name: "a: t, b", Type: "t"}}}),
		"a sum":             types(api.TypeDecl{Name: "A = B {} .type C", Sub: "D"}),
		"no sum":            types(api.TypeDecl{Name: "A <: B .type C", Ctors: []api.Ctor{{Name: "D"}}}),
		"a constructor":     types(api.TypeDecl{Name: "A", Ctors: []api.Ctor{{Name: "B {} | C"}}}),
		"no constructor":    {Types: []api.TypeDecl{{Name: "T"}}, Clauses: []api.Clause{clause(atom("A {} p"))}},
		"a base":            comps(api.Comp{Name: "C : D"}),
		"bases":             comps(api.Comp{Name: "C", Bases: []string{"D, E"}}),
		"a body":            comps(api.Comp{Name: "C { p(). } .comp D"}),
		"an instance":       inits(api.Init{Name: "i = C .init j", Comp: "C"}),
		"a clause":          clauses(clause(atom("p(). q"))),
		"a body's Lit":      clauses(clause(atom("p() :- q"))),
		"Lits":              clauses(clause(atom("p"), is(atom("q(), r")))),
		"a not":             clauses(clause(atom("p"), is(atom("!q")))),
		"no not":            clauses(clause(atom("p"), not(atom("/* ")), is(atom("*/ q")))),
		"an operator":       fact(variable("x + y")),
		"a number":          fact(variable("1")),
		"a text":            fact(variable(`"a"`)),
		"a constructor's":   fact(variable("$A()")),
		"brackets":          fact(variable("(x)")),
		"a minus":           fact(op("-", variable(""), variable("x"))),
		"a minus of 1":      fact(op("-", variable(""), number(1))),
		"arguments":         fact(variable("x, y")),
		"arguments inside":  fact(con("A", variable("x, y"))),
		"a comparison":      clauses(clause(atom("p"), compare("< 1, x <", variable("x"), variable("y")))),
		"a long operator":   fact(op("+ 1 +", variable("x"), variable("y"))),
		"a long sum":        fact(variable("1" + strings.Repeat("+1", 30000))),
		"an atom":           clauses(clause(atom("p"), compare("=", variable("q(x), y"), number(1)))),
		"a comment":         clauses(clause(atom("p // ")), clause(atom("q"))),
		"nothing":           {Clauses: []api.Clause{clause(atom("/*")), clause(atom("*/ p"))}},
	} {
		refused(t, what, p, api.ErrArg)
	}
}

// P10.1: kinds that are none.
func TestWrongKinds(t *testing.T) {
	for _, kind := range []int{0, -1, 7, 1 << 40, math.MaxInt64, math.MinInt64} {
		for _, x := range []api.Expr{{Kind: kind}, {Kind: kind, S: "x"}, {Kind: kind, N: 1}, {Kind: kind, S: "+", Kids: []api.Expr{number(1), number(2)}}} {
			refused(t, "an argument", fact(x), api.ErrArg)
			refused(t, "a second argument", clauses(clause(atom("p", number(1), x))), api.ErrArg)
			refused(t, "an operand", fact(op("+", number(1), x)), api.ErrArg)
			refused(t, "a first operand", fact(op("-", x, number(1))), api.ErrArg)
			refused(t, "a constructor's", fact(con("A", x)), api.ErrArg)
			refused(t, "a side", clauses(clause(atom("p"), compare("<", number(1), x))), api.ErrArg)
		}
	}
	for _, kind := range []int{0, -1, 4, 1 << 40, math.MaxInt64, math.MinInt64} {
		for _, l := range []api.Lit{{Kind: kind}, {Kind: kind, Atom: atom("q")}, {Kind: kind, Op: "<", L: number(1), R: number(2)}} {
			refused(t, "a Lit", clauses(clause(atom("p"), l)), api.ErrArg)
			refused(t, "a second Lit", clauses(clause(atom("p"), is(atom("q")), l)), api.ErrArg)
			refused(t, "a Lit inside", inComps(2, clauses(clause(atom("p"), l, is(atom("q"))))), api.ErrArg)
		}
	}
}

// P10.1: an operator with no, one, three or more Kids, and signs that are none.
func TestWrongOperators(t *testing.T) {
	x := variable("x")
	for _, sign := range []string{"+", "-", "*", "/", "%"} {
		for _, n := range []int{0, 1, 3, 4, 100, 20000} {
			bad := op(sign, times(n, x)...)
			refused(t, sign, fact(bad), api.ErrArg)
			refused(t, sign, fact(op("+", x, bad)), api.ErrArg)
			refused(t, sign, fact(op("+", bad, x)), api.ErrArg)
			refused(t, sign, clauses(clause(atom("p"), compare("<", bad, x))), api.ErrArg)
		}
		refused(t, sign+" of three long texts", fact(op(sign, times(3, text(strings.Repeat("a", api.MaxText)))...)), api.ErrArg)
	}
	for _, sign := range []string{"", " ", "++", "+-", "<", "=", "+ ", " +", ",", "x", ".", "//", "/*", "$", "\u00d7"} {
		refused(t, sign, fact(op(sign, x, x)), api.ErrArg)
	}
	for _, sign := range []string{"", " ", "==", "<>", "=<", "+", "< ", " <", ",", "!", ":-", "<:"} {
		refused(t, sign, clauses(clause(atom("p"), compare(sign, x, x))), api.ErrArg)
	}
}

// P10.1: parts that a Lit, an Expr or a type of its kind does not have.
func TestNeedlessParts(t *testing.T) {
	x := variable("x")
	for what, good := range map[string]api.Expr{"variable": x, "number": number(1), "text": text("a"), "any": anyone(), "operator": op("+", x, x), "constructor": con("A", x)} {
		if _, e := Show(fact(good)); e != api.OK {
			t.Errorf("%s: %v", what, e)
		}
		bad := []api.Expr{}
		if good.Kind != api.ENum {
			bad = append(bad, good)
			bad[len(bad)-1].N = 1
		}
		if good.Kind == api.ENum || good.Kind == api.EAny {
			bad = append(bad, good)
			bad[len(bad)-1].S = "_"
		}
		if len(good.Kids) == 0 {
			bad = append(bad, good, good)
			bad[len(bad)-1].Kids = []api.Expr{{}}
			bad[len(bad)-2].Kids = times(parts-1, x)
		}
		for _, b := range bad {
			refused(t, what, fact(b), api.ErrArg)
			refused(t, what, fact(op("+", x, b)), api.ErrArg)
			refused(t, what, clauses(clause(atom("p"), compare("<", b, x))), api.ErrArg)
		}
	}
	for what, l := range map[string]api.Lit{
		"an atom with a sign":           {Kind: api.LAtom, Atom: atom("q"), Op: "<"},
		"an atom with a left side":      {Kind: api.LAtom, Atom: atom("q"), L: x},
		"an atom with a right side":     {Kind: api.LAtom, Atom: atom("q"), R: api.Expr{N: 1}},
		"a not with a sign":             {Kind: api.LNot, Atom: atom("q"), Op: "="},
		"a not with a left side":        {Kind: api.LNot, Atom: atom("q"), L: api.Expr{S: "a"}},
		"a not with a right side":       {Kind: api.LNot, Atom: atom("q"), R: api.Expr{Kids: []api.Expr{{}}}},
		"a comparison with an atom":     {Kind: api.LCmp, Op: "<", L: x, R: x, Atom: atom("q")},
		"a comparison with arguments":   {Kind: api.LCmp, Op: "<", L: x, R: x, Atom: atom("", x)},
		"a comparison without a side":   {Kind: api.LCmp, Op: "<", L: x},
		"a comparison without one left": {Kind: api.LCmp, Op: "<", R: x},
		"a comparison without a sign":   {Kind: api.LCmp, L: x, R: x},
	} {
		refused(t, what, clauses(clause(atom("p"), l)), api.ErrArg)
		refused(t, what, inComps(1, clauses(clause(atom("p"), is(atom("q")), l))), api.ErrArg)
	}
	refused(t, "a type of both kinds", types(api.TypeDecl{Name: "A", Sub: "B", Ctors: []api.Ctor{{Name: "C"}}}), api.ErrArg)
}

// R1, P10.1: programs as deep as the bound has them.
func TestAsDeepAsCanBe(t *testing.T) {
	x := variable("x")
	left := func(k api.Expr) api.Expr { return op("+", k, x) }
	right := func(k api.Expr) api.Expr { return op("+", x, k) }
	inner := func(k api.Expr) api.Expr { return con("A", k) }
	alone := func(k api.Expr) api.Expr { return op("-", k) }
	empty := func(k api.Expr) api.Expr { return op("", api.Expr{}, k) }
	for _, n := range []int{100, 5000, 9000} {
		refused(t, "left", fact(within(n, x, left)), api.ErrArg)
		refused(t, "right", fact(within(n, x, right)), api.ErrArg)
		refused(t, "inner", fact(within(n, x, inner)), api.ErrArg)
		refused(t, "alone", fact(within(n, x, alone)), api.ErrArg)
		refused(t, "alone inside", fact(left(within(n, x, alone))), api.ErrArg)
		refused(t, "empty", fact(within(n, x, empty)), api.ErrArg)
	}
	for _, n := range []int{12000, parts/2 - 10} {
		refused(t, "left", fact(within(n, x, left)), api.ErrLong)
		refused(t, "right", fact(within(n, x, right)), api.ErrLong)
	}
	refused(t, "inner", fact(within(parts-10, x, inner)), api.ErrLong)
	refused(t, "alone", fact(within(parts-10, x, alone)), api.ErrArg)
	refused(t, "empty", fact(within(parts/2-10, x, empty)), api.ErrLong)
	for _, n := range []int{33, 5000} {
		refused(t, "components", inComps(n, api.Prog{}), api.ErrArg)
	}
	for _, n := range []int{6000, parts - 10} {
		refused(t, "components", inComps(n, api.Prog{}), api.ErrLong)
	}
	refused(t, "operators in components", inComps(2000, fact(within(2000, x, right))), api.ErrArg)
	refused(t, "operators in components", inComps(parts/2, fact(within(parts/4-10, x, right))), api.ErrLong)
}

// R1, P10.1: programs as broad as the bound has them, and names that are far longer than a text may be.
func TestAsBroadAsCanBe(t *testing.T) {
	x := variable("x")
	refused(t, "arguments", clauses(clause(atom("p", times(parts-10, x)...))), api.ErrLong)
	refused(t, "arguments without a text", clauses(clause(atom("p", times(parts-10, api.Expr{})...))), api.ErrLong)
	refused(t, "constructor's", fact(con("A", times(parts-10, x)...)), api.ErrLong)
	refused(t, "Lits without a text", clauses(clause(atom("p"), times(parts-10, api.Lit{})...)), api.ErrLong)
	refused(t, "clauses", clauses(times(parts-10, clause(atom("")))...), api.ErrLong)
	refused(t, "types", types(times(parts-10, api.TypeDecl{})...), api.ErrLong)
	refused(t, "relations", decls(times(parts-10, api.Decl{})...), api.ErrLong)
	refused(t, "components", comps(times(parts-10, api.Comp{})...), api.ErrLong)
	refused(t, "instances", inits(times(parts-10, api.Init{})...), api.ErrLong)
	refused(t, "constructors", types(api.TypeDecl{Ctors: times(parts-10, api.Ctor{})}), api.ErrLong)
	refused(t, "fields", decls(api.Decl{Cols: times(parts-10, api.Field{})}), api.ErrLong)
	refused(t, "Bases", comps(api.Comp{Bases: times(parts-10, "")}), api.ErrLong)
	long := strings.Repeat("x", 1<<26)
	refused(t, "a long variable", fact(variable(long)), api.ErrLong)
	refused(t, "a long text", fact(text(long)), api.ErrArg)
	refused(t, "long names", clauses(times(parts-10, clause(atom(long)))...), api.ErrLong)
	refused(t, "long Bases", comps(api.Comp{Bases: times(parts-10, long)}), api.ErrLong)
	refused(t, "long signs", fact(within(parts/2-10, x, func(k api.Expr) api.Expr { return op(long, k, x) })), api.ErrLong)
	refused(t, "long texts", clauses(clause(atom("p", times(parts-10, text(long[:api.MaxText]))...))), api.ErrLong)
}

// R1: one part that stands in a program again and again is gone into only as long as there is room.
func TestSharedParts(t *testing.T) {
	shared := within(60, variable("x"), func(k api.Expr) api.Expr { return op("+", k, k) })
	refused(t, "operators of operators", fact(shared), api.ErrLong)
	shared = within(60, variable(""), func(k api.Expr) api.Expr { return con("", times(api.MaxWidth, k)...) })
	refused(t, "constructors of constructors", fact(shared), api.ErrLong)
	ring := op("-", api.Expr{}, api.Expr{})
	ring.Kids[0], ring.Kids[1] = ring, ring
	refused(t, "an operator of itself", fact(ring), api.ErrLong)
	body := comps(api.Comp{}, api.Comp{})
	body.Comps[0].Body, body.Comps[1].Body = body, body
	refused(t, "a component of itself", body, api.ErrLong)
}
