package lower

import (
	"slices"
	"strings"
	"testing"

	"vestry/api"
	"vestry/ram"
	"vestry/syn"
	"vestry/term"
)

// parsed: the program of a text.
func parsed(t *testing.T, text string) api.Prog {
	t.Helper()
	p, fault := syn.Parse(text)
	if fault.Why != api.OK {
		t.Fatalf("%q: %v", text, fault)
	}
	return p
}

// valued: the value of an expression without variables and operators.
func valued(x api.Expr) api.Val {
	switch x.Kind {
	case api.ENum:
		return api.Val{Kind: api.Num, N: x.N}
	case api.EText:
		return api.Val{Kind: api.Sym, S: x.S}
	}
	v := api.Val{Kind: api.Con, S: x.S}
	for _, kid := range x.Kids {
		v.Args = append(v.Args, valued(kid))
	}
	return v
}

// facts: those of a text that are written as a program's facts are.
func facts(t *testing.T, text string) []api.Fact {
	t.Helper()
	var all []api.Fact
	for _, one := range strings.SplitAfter(text, ").") {
		for _, c := range parsed(t, one).Clauses {
			f := api.Fact{Rel: c.Head.Rel}
			for _, x := range c.Head.Args {
				f.Args = append(f.Args, valued(x))
			}
			all = append(all, f)
		}
	}
	return all
}

// laid: facts as the tuples of a RAM program's relations, of which the first ones are a program's.
func laid(p api.Prog, m api.Ram, given []api.Fact) [][][]api.Val {
	in := make([][][]api.Val, len(m.Widths))
	for i, name := range Names(p) {
		for _, f := range given {
			if f.Rel == name {
				in[i] = append(in[i], f.Args)
			}
		}
	}
	return in
}

// told: the facts of a program's relations, rising, each as it is written in a program; relation by relation in the order of the Decls.
func told(p api.Prog, rels [][][]api.Val) []string {
	var all []string
	for i, name := range Names(p) {
		for _, tuple := range rels[i] {
			var args []string
			for _, v := range tuple {
				args = append(args, term.Text(v))
			}
			all = append(all, name+"("+strings.Join(args, ", ")+")")
		}
	}
	return all
}

// ran: the facts that a run of a RAM program leaves in the relations of the program that it was made of, or the run's error.
func ran(p api.Prog, m api.Ram, given []api.Fact) ([]string, api.Errno) {
	out, _, e := ram.Run(m, laid(p, m, given), api.MaxFuel)
	if e != api.OK {
		return nil, e
	}
	return told(p, out), e
}

// lowered: what a program that is small becomes.
func lowered(t *testing.T, p api.Prog) api.Ram {
	t.Helper()
	m, small := Lower(p)
	if !small || !ram.Check(m) {
		t.Fatalf("%v: %+v", small, m)
	}
	for i, d := range p.Decls {
		if m.Widths[i] != len(d.Cols) {
			t.Fatalf("the columns are %v", m.Widths)
		}
	}
	return m
}

// leaves: a run of a program over facts leaves these facts, which are written as a program's, in the relations that have clauses; or comes to this error. So does a run of what Tight makes of it.
func leaves(t *testing.T, text, given, want string) {
	t.Helper()
	leavesOver(t, text, facts(t, given), want)
}

// leavesOver: so does one over facts that are no text.
func leavesOver(t *testing.T, text string, given []api.Fact, want string) {
	t.Helper()
	p := parsed(t, text)
	m := lowered(t, p)
	headed := func(told string) bool {
		name, _, _ := strings.Cut(told, "(")
		return slices.ContainsFunc(p.Clauses, func(c api.Clause) bool { return c.Head.Rel == name })
	}
	for _, m := range []api.Ram{m, ram.Tight(m)} {
		out, e := ran(p, m, given)
		got := strings.Join(slices.DeleteFunc(out, func(told string) bool { return !headed(told) }), ". ")
		if e != api.OK {
			got = e.Error()
		}
		if got != want {
			t.Errorf("%s\nover %v\nleaves %s\nwant   %s", text, given, got, want)
		}
	}
}

// refused: a program is lowered to nothing.
func refused(t *testing.T, what string, p api.Prog) {
	t.Helper()
	if m, small := Lower(p); small || !ram.Same(m, api.Ram{}) || m.Widths != nil || m.Main.Kids != nil {
		t.Errorf("%s: %v, %d relations, %d registers, a node of the kind %d", what, small, len(m.Widths), m.Regs, m.Main.Kind)
	}
}

// world: types and inputs.
const world = `
.type A <: number
.type T = Leaf {} | Node {v: number, l: T}
.decl e(x: number, y: number) input
.decl s(x: symbol, y: number) input
.decl t(x: T) input
.decl n(x: number) input
.decl a(x: A) input
.decl on() input
`

// paths: the program of the chapter's example.
const paths = ".decl e(x: number, y: number) input .decl p(x: number, y: number) output p(x, y) :- e(x, y). p(x, z) :- e(x, y), p(y, z)."

// P17.1, P17.2, P17.3: the chapter's example.
func TestExample(t *testing.T) {
	p := parsed(t, paths)
	m := lowered(t, p)
	if len(m.Widths) < 2 || !slices.Equal(Names(p), []string{"e", "p"}) {
		t.Errorf("the columns are %v, the names %q", m.Widths, Names(p))
	}
	leaves(t, paths, "e(1, 2). e(2, 3).", "p(1, 2). p(1, 3). p(2, 3)")
}

// P17.1, P17.2: programs without clauses leave what they are given, in the order of the Decls, with as many columns.
func TestWithoutClauses(t *testing.T) {
	small := func(p api.Prog, want ...int) {
		t.Helper()
		if m := lowered(t, p); !slices.Equal(m.Widths, want) {
			t.Errorf("the columns are %v", m.Widths)
		}
	}
	small(api.Prog{})
	small(parsed(t, ".decl z() .decl a(x: number, y: symbol)"), 0, 2)
	small(parsed(t, ".decl b(x: number) .decl a(a: number, b: number, c: number, d: number, e: number, f: number, g: number, h: number) .decl c()"), 1, 8, 0)
	p := parsed(t, world)
	given := facts(t, `e(2, 1). e(1, 2). s("b", 0). s("", 7). t($Node(1, $Leaf())). t($Leaf()). on().`)
	out, e := ran(p, lowered(t, p), given)
	want := `e(1, 2) e(2, 1) s("", 7) s("b", 0) t($Leaf()) t($Node(1, $Leaf())) on()`
	if strings.Join(out, " ") != want || e != api.OK {
		t.Errorf("%v, %q", e, out)
	}
}

// P17.3: the names, in order, of whatever program.
func TestNames(t *testing.T) {
	for text, want := range map[string]string{
		"": "", ".decl b() .decl a() .decl c()": "b a c",
		".decl p() .decl p() p() :- none().":                "p p",
		".comp C { .decl q() } .init c = C .decl r() c(1).": "r",
	} {
		p := parsed(t, text)
		got := Names(p)
		if strings.Join(got, " ") != want || len(got) != len(p.Decls) {
			t.Errorf("%s: %q", text, got)
		}
	}
	if got := Names(api.Prog{Decls: []api.Decl{{}, {Name: "a b"}, {}}}); !slices.Equal(got, []string{"", "a b", ""}) {
		t.Errorf("%q", got)
	}
}

// P17.1: what is not flat, or not taken, becomes nothing.
func TestNotTaken(t *testing.T) {
	for _, text := range []string{
		".comp C { .decl q() }",
		".comp C { .decl q() } .init c = C .decl p() p().",
		".init c = C",
		".decl p() .decl p()",
		".decl p(x: B)",
		".type number = A {}",
		".decl p(x: number) p(x).",
		".decl p(x: number) p(1, 2).",
		".decl p() q().",
		`.decl p(x: number) p("a").`,
		".decl p(x: number) .decl q(x: number) p(x) :- q(x), !p(x).",
		".decl p(x: number) .decl q(x: number) p(x) :- q(x). q(x) :- q(x), !p(x).",
		".decl p(x: number) p(x + 1) :- p(x).",
		".decl p(x: number) p(y) :- p(x), y = x + 1.",
	} {
		refused(t, text, parsed(t, text))
	}
	p := parsed(t, paths)
	for what, turn := range map[string]func(p *api.Prog){
		"a kind of a Lit":         func(p *api.Prog) { p.Clauses[0].Body[0].Kind = 4 },
		"no kind of a Lit":        func(p *api.Prog) { p.Clauses[1].Body[1].Kind = 0 },
		"a kind of an expression": func(p *api.Prog) { p.Clauses[0].Head.Args[0].Kind = 7 },
		"no kind in an atom":      func(p *api.Prog) { p.Clauses[1].Body[0].Atom.Args[0].Kind = 0 },
		"an operator":             func(p *api.Prog) { p.Clauses[0].Head.Args[0] = api.Expr{Kind: api.EOp, S: "^"} },
		"_ in a head":             func(p *api.Prog) { p.Clauses[0].Head.Args[0] = api.Expr{Kind: api.EAny} },
		"an Init":                 func(p *api.Prog) { p.Inits = []api.Init{{}} },
		"a Comp":                  func(p *api.Prog) { p.Comps = []api.Comp{{}} },
	} {
		q := roomy(p)
		turn(&q)
		refused(t, what, q)
	}
	refused(t, "no relations", api.Prog{Clauses: []api.Clause{{}}})
}

// numeral: a number as a value.
func numeral(n int) api.Val { return api.Val{Kind: api.Num, N: n} }
