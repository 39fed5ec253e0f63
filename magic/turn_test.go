package magic

import (
	"slices"
	"strings"
	"testing"

	"vestry/api"
	"vestry/syn"
)

// P15.1: questions with texts; heads with numbers and texts, whose columns are open; several atoms of one relation in one Body.
func TestTurnValues(t *testing.T) {
	turns(t, world+`.decl p(x: symbol, y: number) p(x, y) :- s(x, y). p("b", 2). p("c", y) :- p("b", y), p(x, y), s(x, 3).`, `p("a\n", x)`, `
s(x: symbol, y: number) input
p.a_bf(x: symbol, y: number) output
p.m_bf(x: symbol)
p.a_fb(x: symbol, y: number)
p.m_fb(y: number)
p.a_bb(x: symbol, y: number)
p.m_bb(x: symbol, y: number)
p.m_bf("a\n").
p.a_bf(x, y) :- p.m_bf(x), s(x, y).
p.a_bf("b", 2) :- p.m_bf("b").
p.m_bf("b") :- p.m_bf("c").
p.m_fb(y) :- p.m_bf("c"), p.a_bf("b", y).
p.a_bf("c", y) :- p.m_bf("c"), p.a_bf("b", y), p.a_fb(x, y), s(x, 3).
p.a_fb(x, y) :- p.m_fb(y), s(x, y).
p.a_fb("b", 2) :- p.m_fb(2).
p.m_bb("b", y) :- p.m_fb(y).
p.m_fb(y) :- p.m_fb(y), p.a_bb("b", y).
p.a_fb("c", y) :- p.m_fb(y), p.a_bb("b", y), p.a_fb(x, y), s(x, 3).
p.a_bb(x, y) :- p.m_bb(x, y), s(x, y).
p.a_bb("b", 2) :- p.m_bb("b", 2).
p.m_bb("b", y) :- p.m_bb("c", y).
p.m_fb(y) :- p.m_bb("c", y), p.a_bb("b", y).
p.a_bb("c", y) :- p.m_bb("c", y), p.a_bb("b", y), p.a_fb(x, y), s(x, 3).
`)
}

// P15.1: relations that hang on one another, and one that hangs on itself alone, at once.
func TestTurnRings(t *testing.T) {
	turns(t, world+".decl even(x: number) .decl odd(x: number) even(0). even(y) :- e(x, y), odd(x). odd(y) :- e(x, y), even(x).", "even(4)", `
e(x: number, y: number) input
even.a_b(x: number) output
even.m_b(x: number)
odd.a_b(x: number)
odd.m_b(x: number)
even.m_b(4).
even.a_b(0) :- even.m_b(0).
odd.m_b(x) :- even.m_b(y), e(x, y).
even.a_b(y) :- even.m_b(y), e(x, y), odd.a_b(x).
even.m_b(x) :- odd.m_b(y), e(x, y).
odd.a_b(y) :- odd.m_b(y), e(x, y), even.a_b(x).
`)
	turns(t, world+".decl p(x: number, y: number) p(x, z) :- p(x, y), e(y, z). p(x, x) :- n(x).", "p(1, y)", `
e(x: number, y: number) input
n(x: number) input
p.a_bf(x: number, y: number) output
p.m_bf(x: number)
p.m_bf(1).
p.m_bf(x) :- p.m_bf(x).
p.a_bf(x, z) :- p.m_bf(x), p.a_bf(x, y), e(y, z).
p.a_bf(x, x) :- p.m_bf(x), n(x).
`)
	turns(t, world+".decl p() p() :- p().", "p()", `
p.a_() output
p.m_()
p.m_().
p.m_() :- p.m_().
p.a_() :- p.m_(), p.a_().
`)
}

// P15.1: Decls that are not derived come first, in their order, without output; then pairs, breadth first; Clauses pair by pair, in their order; what no question needs is gone.
func TestTurnOrder(t *testing.T) {
	turns(t, `
.decl c(x: number) output .decl z() .decl f(x: number) output input .decl gone(x: number) output input .decl q(x: number)
.decl b(x: number) output .decl d(x: number) .decl a(x: number) .decl e(x: number) input .decl over(x: number) output
c(x) :- e(x). over(x) :- q(x), gone(x). a(x) :- c(x), d(x). q(x) :- a(x), b(x), z(). c(x) :- b(x). b(x) :- f(x). d(1). q(x) :- b(x).
`, "q(x)", `
z()
f(x: number) input
e(x: number) input
q.a_f(x: number) output
q.m_f()
a.a_f(x: number)
a.m_f()
b.a_b(x: number)
b.m_b(x: number)
b.a_f(x: number)
b.m_f()
c.a_f(x: number)
c.m_f()
d.a_b(x: number)
d.m_b(x: number)
q.m_f().
a.m_f() :- q.m_f().
b.m_b(x) :- q.m_f(), a.a_f(x).
q.a_f(x) :- q.m_f(), a.a_f(x), b.a_b(x), z().
b.m_f() :- q.m_f().
q.a_f(x) :- q.m_f(), b.a_f(x).
c.m_f() :- a.m_f().
d.m_b(x) :- a.m_f(), c.a_f(x).
a.a_f(x) :- a.m_f(), c.a_f(x), d.a_b(x).
b.a_b(x) :- b.m_b(x), f(x).
b.a_f(x) :- b.m_f(), f(x).
c.a_f(x) :- c.m_f(), e(x).
b.m_f() :- c.m_f().
c.a_f(x) :- c.m_f(), b.a_f(x).
d.a_b(1) :- d.m_b(1).
`)
}

// P15.1: the same pair, from several atoms and of several Clauses, comes once, as the question's does.
func TestTurnPairOnce(t *testing.T) {
	turns(t, world+".decl p(x: number) .decl r(x: number) p(x) :- r(x), n(y), r(y), p(y). p(x) :- r(x). r(x) :- n(x).", "p(5)", `
n(x: number) input
p.a_b(x: number) output
p.m_b(x: number)
r.a_b(x: number)
r.m_b(x: number)
p.m_b(5).
r.m_b(x) :- p.m_b(x).
r.m_b(y) :- p.m_b(x), r.a_b(x), n(y).
p.m_b(y) :- p.m_b(x), r.a_b(x), n(y), r.a_b(y).
p.a_b(x) :- p.m_b(x), r.a_b(x), n(y), r.a_b(y), p.a_b(y).
r.m_b(x) :- p.m_b(x).
p.a_b(x) :- p.m_b(x), r.a_b(x).
r.a_b(x) :- r.m_b(x), n(x).
`)
}

// P15.1: a comparison ahead of an atom binds the variables on its sides; one behind it does not; one of other signs stays like it.
func TestTurnComparisons(t *testing.T) {
	rule := world + ".decl r(x: number, y: number) .decl p(x: number, y: number) r(x, y) :- e(x, y). p(x, y) :- "
	const decls = `
e(x: number, y: number) input
p.a_%(x: number, y: number) output
p.m_%(`
	for _, c := range []struct{ body, question, want string }{
		{"e(x, z), w = z + 1, r(w, y), y > 2, v = y, r(_, v)", "p(1, x)", `
r.m_bf(w) :- p.m_bf(x), e(x, z), w = z + 1.
r.m_fb(v) :- p.m_bf(x), e(x, z), w = z + 1, r.a_bf(w, y), y > 2, v = y.
p.a_bf(x, y) :- p.m_bf(x), e(x, z), w = z + 1, r.a_bf(w, y), y > 2, v = y, r.a_fb(_, v).`},
		{"e(x, z), 3 = w, r(w, y)", "p(x, y)", `
r.m_bf(w) :- p.m_ff(), e(x, z), 3 = w.
p.a_ff(x, y) :- p.m_ff(), e(x, z), 3 = w, r.a_bf(w, y).`},
		{"e(x, z), z * 2 = w, r(v, w), v != w, r(v, y)", "p(x, y)", `
r.m_fb(w) :- p.m_ff(), e(x, z), z * 2 = w.
r.m_bf(v) :- p.m_ff(), e(x, z), z * 2 = w, r.a_fb(v, w), v != w.
p.a_ff(x, y) :- p.m_ff(), e(x, z), z * 2 = w, r.a_fb(v, w), v != w, r.a_bf(v, y).`},
		{"r(x, z), y = z", "p(_, 3)", `
r.m_ff() :- p.m_fb(y).
p.a_fb(x, y) :- p.m_fb(y), r.a_ff(x, z), y = z.`},
		{"r(x, z), z = 4, e(z, y)", "p(3, _)", `
r.m_bf(x) :- p.m_bf(x).
p.a_bf(x, y) :- p.m_bf(x), r.a_bf(x, z), z = 4, e(z, y).`},
		{"e(x, y), x < y, 1 = 1, r(y, x), x >= 0", "p(x, y)", `
r.m_bb(y, x) :- p.m_ff(), e(x, y), x < y, 1 = 1.
p.a_ff(x, y) :- p.m_ff(), e(x, y), x < y, 1 = 1, r.a_bb(y, x), x >= 0.`},
		{"y = 1, r(x, z), r(z, y)", "p(7, 7)", `
r.m_bf(x) :- p.m_bb(x, y), y = 1.
r.m_bb(z, y) :- p.m_bb(x, y), y = 1, r.a_bf(x, z).
p.a_bb(x, y) :- p.m_bb(x, y), y = 1, r.a_bf(x, z), r.a_bb(z, y).`},
	} {
		q, turned := Turn(parsed(t, rule+c.body+"."), atom(t, c.question))
		begin, _, _ := strings.Cut(strings.ReplaceAll(decls, "%", q.Decls[1].Name[4:]), "\n\n")
		if is := shown(q); !turned || !strings.HasPrefix("\n"+is, begin) || !strings.Contains(is, c.want+"\nr.a_") {
			t.Errorf("%s of %s is (%v)\n%s", c.question, c.body, turned, is)
		}
	}
}

// P15.1: a column is open by its heads' variables, numbers and texts, and is not by one operator or constructor; what is not open has no `b`.
func TestTurnOpen(t *testing.T) {
	turns(t, world+".decl p(x: number, y: number) .decl q(x: number, y: number) p(x + 1, y) :- e(x, y). p(x, 1) :- n(x). q(x, y) :- e(x, y), p(x, y). q(x, x) :- n(x), p(2, 3).", "q(1, x)", `
e(x: number, y: number) input
n(x: number) input
q.a_bf(x: number, y: number) output
q.m_bf(x: number)
p.a_fb(x: number, y: number)
p.m_fb(y: number)
q.m_bf(1).
p.m_fb(y) :- q.m_bf(x), e(x, y).
q.a_bf(x, y) :- q.m_bf(x), e(x, y), p.a_fb(x, y).
p.m_fb(3) :- q.m_bf(x), n(x).
q.a_bf(x, x) :- q.m_bf(x), n(x), p.a_fb(2, 3).
p.a_fb(x + 1, y) :- p.m_fb(y), e(x, y).
p.a_fb(x, 1) :- p.m_fb(1), n(x).
`)
	turns(t, world+".decl p(x: T, y: number, z: T) p($Node(y, x), y, x) :- t(x), n(y). p(x, 0, $Leaf()) :- t(x).", "p(x, 4, _)", `
t(x: T) input
n(x: number) input
p.a_fbf(x: T, y: number, z: T) output
p.m_fbf(y: number)
p.m_fbf(4).
p.a_fbf($Node(y, x), y, x) :- p.m_fbf(y), t(x), n(y).
p.a_fbf(x, 0, $Leaf()) :- p.m_fbf(0), t(x).
`)
	turns(t, world+".decl p(x: number, y: number) p(2 * x, x - 1) :- n(x).", "p(4, 1)", `
n(x: number) input
p.a_ff(x: number, y: number) output
p.m_ff()
p.m_ff().
p.a_ff(2 * x, x - 1) :- p.m_ff(), n(x).
`)
}

// P15.1: variables within the constructors of an atom that was gone through are bound; an Arg that is a constructor or an operator, or `_`, has no `b`.
func TestTurnConstructors(t *testing.T) {
	turns(t, world+`.decl p(x: number) .decl r(x: number, y: T) r(x, y) :- n(x), t(y).
p(x) :- t($Node(x, $Node(w, z))), r(w, z), r(x + 1, $Leaf()), r(_, $Node(w, u)), r(x, u), r(_, _).`, "p(x)", `
t(x: T) input
n(x: number) input
p.a_f(x: number) output
p.m_f()
r.a_bb(x: number, y: T)
r.m_bb(x: number, y: T)
r.a_ff(x: number, y: T)
r.m_ff()
p.m_f().
r.m_bb(w, z) :- p.m_f(), t($Node(x, $Node(w, z))).
r.m_ff() :- p.m_f(), t($Node(x, $Node(w, z))), r.a_bb(w, z).
r.m_ff() :- p.m_f(), t($Node(x, $Node(w, z))), r.a_bb(w, z), r.a_ff(x + 1, $Leaf()).
r.m_bb(x, u) :- p.m_f(), t($Node(x, $Node(w, z))), r.a_bb(w, z), r.a_ff(x + 1, $Leaf()), r.a_ff(_, $Node(w, u)).
r.m_ff() :- p.m_f(), t($Node(x, $Node(w, z))), r.a_bb(w, z), r.a_ff(x + 1, $Leaf()), r.a_ff(_, $Node(w, u)), r.a_bb(x, u).
p.a_f(x) :- p.m_f(), t($Node(x, $Node(w, z))), r.a_bb(w, z), r.a_ff(x + 1, $Leaf()), r.a_ff(_, $Node(w, u)), r.a_bb(x, u), r.a_ff(_, _).
r.a_bb(x, y) :- r.m_bb(x, y), n(x), t(y).
r.a_ff(x, y) :- r.m_ff(), n(x), t(y).
`)
}

// P15.1: a constructor is no variable, though its word is a bound one's; nor is a text.
func TestTurnWords(t *testing.T) {
	turns(t, world+`.decl p(Leaf: number) .decl r(x: number, y: T) .decl w(x: symbol, y: number) r(x, y) :- n(x), t(y). w(x, y) :- s(x, y).
p(Leaf) :- r(Leaf, $Leaf()), w("Leaf", x), w("x", Leaf).`, "p(1)", `
s(x: symbol, y: number) input
t(x: T) input
n(x: number) input
p.a_b(Leaf: number) output
p.m_b(Leaf: number)
r.a_bf(x: number, y: T)
r.m_bf(x: number)
w.a_bf(x: symbol, y: number)
w.m_bf(x: symbol)
w.a_bb(x: symbol, y: number)
w.m_bb(x: symbol, y: number)
p.m_b(1).
r.m_bf(Leaf) :- p.m_b(Leaf).
w.m_bf("Leaf") :- p.m_b(Leaf), r.a_bf(Leaf, $Leaf()).
w.m_bb("x", Leaf) :- p.m_b(Leaf), r.a_bf(Leaf, $Leaf()), w.a_bf("Leaf", x).
p.a_b(Leaf) :- p.m_b(Leaf), r.a_bf(Leaf, $Leaf()), w.a_bf("Leaf", x), w.a_bb("x", Leaf).
r.a_bf(x, y) :- r.m_bf(x), n(x), t(y).
w.a_bf(x, y) :- w.m_bf(x), s(x, y).
w.a_bb(x, y) :- w.m_bb(x, y), s(x, y).
`)
}

// P15.1: an atom's pattern does not hang on the atom's own variables, nor on the variables of another Clause.
func TestTurnOwnVariables(t *testing.T) {
	turns(t, world+".decl p(x: number) .decl r(x: number, y: number) r(x, x) :- n(x). r(y, x) :- e(x, y). p(x) :- r(y, y), n(x). p(y) :- r(x, y).", "p(1)", `
e(x: number, y: number) input
n(x: number) input
p.a_b(x: number) output
p.m_b(x: number)
r.a_ff(x: number, y: number)
r.m_ff()
r.a_fb(x: number, y: number)
r.m_fb(y: number)
p.m_b(1).
r.m_ff() :- p.m_b(x).
p.a_b(x) :- p.m_b(x), r.a_ff(y, y), n(x).
r.m_fb(y) :- p.m_b(y).
p.a_b(y) :- p.m_b(y), r.a_fb(x, y).
r.a_ff(x, x) :- r.m_ff(), n(x).
r.a_ff(y, x) :- r.m_ff(), e(x, y).
r.a_fb(x, x) :- r.m_fb(x), n(x).
r.a_fb(y, x) :- r.m_fb(x), e(x, y).
`)
}

// P15.1: what is no question, or can't be turned, leaves the program as it is.
func TestStays(t *testing.T) {
	for _, c := range []struct{ text, questions string }{
		{"p(x, y) :- e(x, y).", `p(x, x); p(x); p(); p(x, y, z); r(x); p(1 + 1, x); p($Leaf(), x); p("a", x)`},
		{"p(x, y) :- e(x, y).", "e(x, y); q(x, y); n(1)"},
		{"p(x, y) :- e(x, y), !n(x).", "p(x, y); p(1, 2)"},
		{"p(x, y) :- q(x, y). q(x, y) :- e(x, y), !n(x).", "p(1, y); q(1, y)"},
		{"p(x, y) :- e(x, y). p(1, x) :- n(x), !q(x, x). q(x, y) :- e(y, x).", "p(2, y)"},
		{"p(x, y) :- e(x, y). e(1, 2).", "p(x, y); e(x, y)"},
		{"p(x, y) :- q(x, y). q(x, y) :- e(x, y). e(x, y) :- n(x), n(y).", "p(x, y); q(x, y); e(1, _)"},
		{"p(x, y) :- e(x, y), !p(y, x).", "p(x, y)"},
		{"p(x + 1, y) :- p(x, y).", "p(x, y)"},
		{"p(x, y) :- e(x, z).", "p(x, y)"},
		{"p(x, _) :- e(x, _).", "p(x, y)"},
		{"p(x, y) :- none(x, y).", "p(x, y)"},
		{"p(x, y) :- e(x, y). q(x) :- n(x).", "p(x, y)"},
		{"p(x, y) :- e(x, y). .comp C {}", "p(x, y)"},
		{"p(x, y) :- e(x, y). .comp C { .decl r() } .init c = C", "p(x, y)"},
		{"p(x, y) :- e(x, y). .init c = C", "p(x, y)"},
		{"p(x, y) :- e(x, y). .decl e()", "p(x, y)"},
	} {
		p := parsed(t, world+".decl p(x: number, y: number) .decl q(x: number, y: number) output "+c.text)
		for question := range strings.SplitSeq(c.questions, "; ") {
			stays(t, p, atom(t, question))
		}
	}
}

// P15.1: what no question's cone has keeps nothing from being turned.
func TestStaysNotByOthers(t *testing.T) {
	turns(t, edges+".decl u(x: number) .decl i() input u(x) :- n(x), !p(x, x), i(). i() :- i(), !p(1, 1). n(x) :- u(x).", "p(1, x)", fromOne)
}

// P15.1: a Decl with a `.` in its name keeps all from being turned, whether the question needs it or not.
func TestStaysByPoint(t *testing.T) {
	for _, name := range []string{"c.r", ".", "r.", ".r", "p.a_bf"} {
		p := parsed(t, edges)
		q := atom(t, "p(1, x)")
		p.Decls = append(p.Decls, api.Decl{Name: name})
		stays(t, p, q)
		slices.Reverse(p.Decls)
		stays(t, p, q)
		p.Decls[0].Name = "r"
		if _, turned := Turn(p, q); !turned {
			t.Errorf("%q without a point", name)
		}
		p = parsed(t, edges)
		p.Decls[0].Name = name
		p.Clauses[0].Body[0].Atom.Rel = name
		p.Clauses[1].Body[0].Atom.Rel = name
		stays(t, p, q)
	}
}

// P15.1: what is turned, but is not taken by Check, is not answered.
func TestStaysByCheck(t *testing.T) {
	for _, c := range []struct{ what, text, questions, turned string }{
		{"a variable of too high a type", ".decl p(x: number) .decl r(x: A) r(x) :- a(x). p(x) :- n(x), r(x).", "p(x); p(1)", "r(x); r(1)"},
		{"made values that feed themselves", ".decl p(x: number, y: number) p(x, y) :- e(x, y). p(x, y) :- e(x, z), w = z + 1, p(w, y).", "p(1, x); p(x, y)", ""},
		{"made values that feed what is asked for", ".decl p(x: number) .decl r(x: number) r(x + 1) :- n(x). p(x) :- r(x), r(_).", "p(x); p(1)", "r(x); r(1)"},
		{"a number of another type", ".decl p(x: symbol, y: number) p(x, y) :- s(x, y).", `p(1, x); p("a", "b"); p(_, "b")`, `p("a", 1); p(_, 2)`},
		{"a text that is not asked for", ".decl p(x: number, y: number) p(x, y + 1) :- e(x, y).", `p("a", "b")`, `p(1, "b"); p(_, "b")`},
	} {
		p := parsed(t, world+c.text)
		for question := range strings.SplitSeq(c.questions, "; ") {
			stays(t, p, atom(t, question))
		}
		for question := range strings.SplitSeq(c.turned, "; ") {
			if question == "" {
				continue
			}
			if _, turned := Turn(p, atom(t, question)); !turned {
				t.Errorf("%s: %s is not turned", c.what, question)
			}
		}
	}
}

// P15.1: new nodes have the At of what they stand for; all others keep theirs.
func TestTurnAt(t *testing.T) {
	text := world + ".decl p(x: number, y: number)   .decl r(x: number)   p(x, z) :-   e(x, y),   r(y),   y < 3,   p(y, z).   r(2)."
	p := parsed(t, text)
	q := parsed(t, strings.Repeat(" ", 1000)+"p(1, x).").Clauses[0].Head
	got, turned := Turn(p, q)
	at := func(of string) int { return strings.Index(text, of) }
	decl, clause, first, second, fact := at(".decl p"), at("p(x, z)"), at("r(y)"), at("p(y, z)"), at("r(2)")
	for i, want := range []int{at(".decl e"), decl, decl, at(".decl r"), at(".decl r")} {
		if got.Decls[i].At != want {
			t.Errorf("%s at %d, want %d", got.Decls[i].Name, got.Decls[i].At, want)
		}
	}
	for i, want := range []int{1000, first, second, clause, fact} {
		c := got.Clauses[i]
		if c.At != want || c.Head.At != want {
			t.Errorf("clause %d at %d and %d, want %d", i, c.At, c.Head.At, want)
		}
		if i == 0 {
			continue
		}
		rule := clause
		if i == 4 {
			rule = fact
		}
		if l := c.Body[0]; l.At != rule || l.Atom.At != rule {
			t.Errorf("clause %d asks at %d and %d, want %d", i, l.At, l.Atom.At, rule)
		}
	}
	for i, of := range []string{"e(x, y)", "r(y)", "y < 3", "p(y, z)"} {
		if l := got.Clauses[3].Body[i+1]; l.At != at(of) || l.Kind == api.LAtom && l.Atom.At != at(of) {
			t.Errorf("%s at %d", of, l.At)
		}
	}
	for what, c := range map[string][2]int{
		"the question's 1":   {got.Clauses[0].Head.Args[0].At, 1002},
		"what r is asked":    {got.Clauses[1].Head.Args[0].At, first + 2},
		"the head's x":       {got.Clauses[1].Body[0].Atom.Args[0].At, clause + 2},
		"what p is asked":    {got.Clauses[2].Head.Args[0].At, second + 2},
		"r's y ahead of p":   {got.Clauses[2].Body[2].Atom.Args[0].At, first + 2},
		"the answer's z":     {got.Clauses[3].Head.Args[1].At, clause + 5},
		"the 3":              {got.Clauses[3].Body[3].R.At, at("3,   p")},
		"what is asked of 2": {got.Clauses[4].Body[0].Atom.Args[0].At, fact + 2},
	} {
		if c[0] != c[1] {
			t.Errorf("%s is at %d, want %d", what, c[0], c[1])
		}
	}
	if !turned {
		t.Error("not turned")
	}
}

// P15.1: where parts have places of their own, an atom's new nodes have the atom's, a Clause's the Clause's.
func TestTurnAtApart(t *testing.T) {
	p := parsed(t, world+".decl p(x: number) .decl r(x: number) p(x) :- r(x). r(x) :- n(x).")
	c := &p.Clauses[0]
	c.At, c.Head.At, c.Body[0].At, c.Body[0].Atom.At = 1, 2, 3, 4
	got, turned := Turn(p, api.Atom{Rel: "p", Args: []api.Expr{{Kind: api.EAny}}, At: 5})
	asked, answers := got.Clauses[1], got.Clauses[2]
	if got.Clauses[0].At != 5 || got.Clauses[0].Head.At != 5 ||
		asked.At != 4 || asked.Head.At != 4 || asked.Body[0].At != 1 || asked.Body[0].Atom.At != 1 ||
		answers.At != 1 || answers.Head.At != 2 || answers.Body[0].At != 1 || answers.Body[0].Atom.At != 1 ||
		answers.Body[1].At != 3 || answers.Body[1].Atom.At != 4 || !turned {
		t.Errorf("%+v", got)
	}
}

// P15.1: new Decls and Clauses have nothing but what the document names; what stays is as it was.
func TestTurnParts(t *testing.T) {
	p := parsed(t, edges)
	got, _ := Turn(p, atom(t, "p(1, x)"))
	if !equal(got.Decls[0], p.Decls[0]) || !equal(got.Clauses[1].Body[1], p.Clauses[0].Body[0]) || !equal(got.Clauses[3].Body[1], p.Clauses[1].Body[0]) {
		t.Error(shown(got))
	}
	l := got.Clauses[1].Body[0]
	if l.Kind != api.LAtom || l.Op != "" || !equal(l.L, api.Expr{}) || !equal(l.R, api.Expr{}) || len(got.Comps)+len(got.Inits) > 0 {
		t.Errorf("%+v", l)
	}
	again, turned := Turn(got, atom(t, "p(1, x)"))
	if turned || !syn.Same(got, again) {
		t.Error("a turned program is turned again")
	}
}
