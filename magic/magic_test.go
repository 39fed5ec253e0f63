package magic

import (
	"fmt"
	"strings"
	"testing"

	"vestry/api"
	"vestry/rules"
	"vestry/show"
	"vestry/syn"
)

// parsed: the program of a text.
func parsed(t *testing.T, text string) api.Prog {
	t.Helper()
	p, fault := syn.Parse(text)
	if fault.Why != api.OK {
		t.Fatalf("%q: %v", text, fault)
	}
	return p
}

// atom: the atom of a text.
func atom(t *testing.T, text string) api.Atom {
	t.Helper()
	return parsed(t, text+".").Clauses[0].Head
}

// shown: a program's Decls and Clauses as a text; the new names of relations are none that a text's Decl may have.
func shown(p api.Prog) string {
	var text strings.Builder
	for _, d := range p.Decls {
		var cols []string
		for _, col := range d.Cols {
			cols = append(cols, col.Name+": "+col.Type)
		}
		text.WriteString(d.Name + "(" + strings.Join(cols, ", ") + ")")
		if d.Input {
			text.WriteString(" input")
		}
		if d.Output {
			text.WriteString(" output")
		}
		text.WriteString("\n")
	}
	for _, c := range p.Clauses {
		line, _ := show.Show(api.Prog{Clauses: []api.Clause{c}})
		text.WriteString(line)
	}
	return text.String()
}

// equal: whether two things are the same, At too; lists that are nil and ones that are empty are.
func equal(a, b any) bool { return fmt.Sprintf("%+v", a) == fmt.Sprintf("%+v", b) }

// world: types and inputs, of which only those that a question needs are left.
const world = `
.type A <: number
.type T = Leaf {} | Node {v: number, l: T}
.decl e(x: number, y: number) input
.decl s(x: symbol, y: number) input
.decl t(x: T) input
.decl n(x: number) input
.decl a(x: A) input
`

// edges: the relation of the chapter's example.
const edges = world + ".decl p(x: number, y: number) output p(x, y) :- e(x, y). p(x, z) :- e(x, y), p(y, z)."

// fromOne: what the question p(1, x) turns it to.
const fromOne = `
e(x: number, y: number) input
p.a_bf(x: number, y: number) output
p.m_bf(x: number)
p.m_bf(1).
p.a_bf(x, y) :- p.m_bf(x), e(x, y).
p.m_bf(y) :- p.m_bf(x), e(x, y).
p.a_bf(x, z) :- p.m_bf(x), e(x, y), p.a_bf(y, z).
`

// turns: a question of a program turns that to these Decls and Clauses, and all of the Types.
func turns(t *testing.T, text, question, want string) {
	t.Helper()
	p := parsed(t, text)
	got, turned := Turn(p, atom(t, question))
	if is, must := shown(got), strings.TrimLeft(want, "\n"); is != must || !turned || !equal(got.Types, p.Types) {
		t.Errorf("%s of\n%s\nis (%v, %d types)\n%swant\n%s", question, text, turned, len(got.Types), is, must)
	}
	if fault := rules.Check(got); fault.Why != api.OK {
		t.Errorf("%s of\n%s\nis not taken: %v", question, text, fault)
	}
}

// stays: a question of a program answers that as it is, and false.
func stays(t *testing.T, p api.Prog, q api.Atom) {
	t.Helper()
	if got, turned := Turn(p, q); turned || !equal(got, p) {
		t.Errorf("%+v of\n%s\nis (%v)\n%s", q, shown(p), turned, shown(got))
	}
}

// P15.1: an atom of a relation with as many columns, of numbers, texts, unlike variables and `_`, is a question, whatever the program is.
func TestQuestion(t *testing.T) {
	for text, want := range map[string]bool{
		"e(1, 2)": true, "e(x, y)": true, "e(_, _)": true, "e(-1, _)": true, "e(x, _)": true, "e(1, x)": true, `e("a", "a")`: true,
		`s("", x)`: true, `s(1, "a")`: true, "e(0, 0)": true, "n(_)": true, "u()": true,
		"e(x, x)": false, "v(x, _, x)": false, "v(x, y, x)": false, "v(x, y, _)": true, "v(_, _, _)": true, "v(1, 1, 1)": true,
		"e(x)": false, "e(x, y, z)": false, "e()": false, "u(x)": false, "u(_)": false, "n()": false,
		"none(x)": false, "none()": false, "E(x, y)": false, "c.e(x)": false, "A(x)": false,
		"e(1 + 2, x)": false, "e(x, y + 1)": false, "e(-x, 1)": false, "t($Leaf())": false, "t($Node(1, x))": false, "n(1 * 1)": false,
	} {
		p := parsed(t, world+".decl u() .decl v(a: number, b: number, c: number) .comp C { .decl e(x: number) } .init c = C u() :- none(1 + _).")
		if got := Question(p, atom(t, text)); got != want {
			t.Errorf("%s: %v", text, got)
		}
	}
}

// P15.1: a question by what texts do not have.
func TestQuestionOdd(t *testing.T) {
	p := api.Prog{Decls: []api.Decl{{Name: "", Cols: []api.Field{{}}}, {Name: "p", Cols: []api.Field{{}, {}}}, {Name: "p"}}}
	variable := api.Expr{Kind: api.EVar}
	for _, c := range []struct {
		q    api.Atom
		want bool
	}{
		{api.Atom{Args: []api.Expr{variable}}, true},
		{api.Atom{}, false},
		{api.Atom{Rel: "p"}, true},
		{api.Atom{Rel: "p", Args: []api.Expr{variable}}, false},
		{api.Atom{Rel: "p", Args: []api.Expr{variable, variable}}, false},
		{api.Atom{Rel: "p", Args: []api.Expr{variable, {Kind: api.EVar, S: "x"}}}, true},
		{api.Atom{Rel: "p", Args: []api.Expr{{Kind: api.EText, S: "x"}, {Kind: api.EVar, S: "x"}}}, true},
		{api.Atom{Rel: "p", Args: []api.Expr{variable, {Kind: api.EAny}}}, true},
		{api.Atom{Rel: "p", Args: []api.Expr{variable, {}}}, false},
		{api.Atom{Rel: "p", Args: []api.Expr{variable, {Kind: api.ECon + 1}}}, false},
		{api.Atom{Rel: "p", Args: []api.Expr{variable, {Kind: -1}}}, false},
	} {
		if got := Question(p, c.q); got != c.want {
			t.Errorf("%+v: %v", c.q, got)
		}
		stays(t, p, c.q)
	}
	if Question(api.Prog{}, api.Atom{}) {
		t.Error("a question of nothing")
	}
}

// P15.1: the example of the chapter.
func TestTurn(t *testing.T) {
	turns(t, edges, "p(1, x)", fromOne)
}

// P15.1: other questions of it: patterns come one from the other.
func TestTurnPatterns(t *testing.T) {
	turns(t, edges, "p(_, 7)", `
e(x: number, y: number) input
p.a_fb(x: number, y: number) output
p.m_fb(y: number)
p.a_bb(x: number, y: number)
p.m_bb(x: number, y: number)
p.m_fb(7).
p.a_fb(x, y) :- p.m_fb(y), e(x, y).
p.m_bb(y, z) :- p.m_fb(z), e(x, y).
p.a_fb(x, z) :- p.m_fb(z), e(x, y), p.a_bb(y, z).
p.a_bb(x, y) :- p.m_bb(x, y), e(x, y).
p.m_bb(y, z) :- p.m_bb(x, z), e(x, y).
p.a_bb(x, z) :- p.m_bb(x, z), e(x, y), p.a_bb(y, z).
`)
	for _, question := range []string{"p(x, y)", "p(z, _)", "p(_, _)"} {
		turns(t, edges, question, `
e(x: number, y: number) input
p.a_ff(x: number, y: number) output
p.m_ff()
p.a_bf(x: number, y: number)
p.m_bf(x: number)
p.m_ff().
p.a_ff(x, y) :- p.m_ff(), e(x, y).
p.m_bf(y) :- p.m_ff(), e(x, y).
p.a_ff(x, z) :- p.m_ff(), e(x, y), p.a_bf(y, z).
p.a_bf(x, y) :- p.m_bf(x), e(x, y).
p.m_bf(y) :- p.m_bf(x), e(x, y).
p.a_bf(x, z) :- p.m_bf(x), e(x, y), p.a_bf(y, z).
`)
	}
	turns(t, edges, "p(-3, 4)", `
e(x: number, y: number) input
p.a_bb(x: number, y: number) output
p.m_bb(x: number, y: number)
p.m_bb(-3, 4).
p.a_bb(x, y) :- p.m_bb(x, y), e(x, y).
p.m_bb(y, z) :- p.m_bb(x, z), e(x, y).
p.a_bb(x, z) :- p.m_bb(x, z), e(x, y), p.a_bb(y, z).
`)
}
