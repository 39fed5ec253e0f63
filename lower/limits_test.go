package lower

import (
	"slices"
	"strconv"
	"strings"
	"testing"

	"vestry/api"
	"vestry/ram"
	"vestry/rules"
)

func variable(s string) api.Expr { return api.Expr{Kind: api.EVar, S: s} }

func number(n int) api.Expr { return api.Expr{Kind: api.ENum, N: n} }

func atomOf(rel string, args ...api.Expr) api.Atom { return api.Atom{Rel: rel, Args: args} }

// on: an LAtom.
func on(rel string, args ...api.Expr) api.Lit {
	return api.Lit{Kind: api.LAtom, Atom: atomOf(rel, args...)}
}

// compared: an LCmp.
func compared(l api.Expr, op string, r api.Expr) api.Lit {
	return api.Lit{Kind: api.LCmp, L: l, Op: op, R: r}
}

// rule: a Clause of a relation and its Lits.
func rule(head api.Atom, body ...api.Lit) api.Clause { return api.Clause{Head: head, Body: body} }

// name: a relation's name by a number.
func name(i int) string { return "r" + strconv.Itoa(i) }

// variables: so many of them, unlike ones.
func variables(n int) []api.Expr {
	var list []api.Expr
	for i := range n {
		list = append(list, variable("x"+strconv.Itoa(i)))
	}
	return list
}

// columns: so many columns of numbers.
func columns(n int) []api.Field {
	var cols []api.Field
	for i := range n {
		cols = append(cols, api.Field{Name: "c" + strconv.Itoa(i), Type: "number"})
	}
	return cols
}

// just: a program of so much of something is small up to a limit, and not behind it.
func just(t *testing.T, what string, limit int, program func(n int) api.Prog) {
	t.Helper()
	for n := max(limit-3, 0); n < limit+4; n++ {
		p := program(n)
		if fault := rules.Check(p); fault.Why != api.OK {
			t.Fatalf("%s, %d: %v", what, n, fault)
		}
		if n > limit {
			refused(t, what+", "+strconv.Itoa(n), p)
			continue
		}
		if m, small := Lower(p); !small || len(m.Widths) < len(p.Decls) {
			t.Errorf("%s, %d: %v", what, n, small)
		}
	}
}

// bare: so many relations without columns, of which some hang on themselves, each for itself.
func bare(n, recursive int) api.Prog {
	var p api.Prog
	for i := range n {
		p.Decls = append(p.Decls, api.Decl{Name: name(i)})
		if i < recursive {
			p.Clauses = append(p.Clauses, rule(atomOf(name(i)), on(name(i))))
		}
	}
	return p
}

// P17.1: 64 Decls are not too many, 65 are, whatever they have. Each relation that hangs on itself has two more, of which there are no more than 128 in all.
func TestManyDecls(t *testing.T) {
	just(t, "Decls", 64, func(n int) api.Prog { return bare(n, 0) })
	just(t, "Decls, half of them with clauses", 64, func(n int) api.Prog { return bare(n, 30) })
	just(t, "relations that hang on themselves", 42, func(n int) api.Prog { return bare(n, n) })
	just(t, "some, and others", 32, func(n int) api.Prog { return bare(64, n) })
	just(t, "others, and some", 62, func(n int) api.Prog { return bare(n, 33) })
	just(t, "a ring of relations", 42, func(n int) api.Prog {
		p := bare(n, 0)
		for i := range n {
			p.Clauses = append(p.Clauses, rule(atomOf(name(i)), on(name((i+1)%n))))
		}
		return p
	})
	just(t, "a ring, and a row", 31, func(n int) api.Prog {
		p := bare(64, 0)
		for i := range 64 {
			p.Clauses = append(p.Clauses, rule(atomOf(name(i)), on(name((i+1)%64))))
		}
		p.Clauses = p.Clauses[:63]
		if n > 0 {
			p.Clauses = append(p.Clauses, rule(atomOf(name(n)), on(name(0))))
		}
		return p
	})
}

// P17.1: of columns there are 8, in a relation, and in a constructor that an LAtom takes apart.
func TestManyColumns(t *testing.T) {
	just(t, "columns", 8, func(n int) api.Prog { return api.Prog{Decls: []api.Decl{{Name: "a"}, {Name: "p", Cols: columns(n)}}} })
	just(t, "columns of a clause", 8, func(n int) api.Prog {
		p := api.Prog{Decls: []api.Decl{{Name: "p", Cols: columns(n)}}}
		p.Clauses = []api.Clause{rule(atomOf("p", variables(n)...), on("p", variables(n)...))}
		return p
	})
	just(t, "a constructor's parts", 8, func(n int) api.Prog {
		p := parsed(t, ".type W = A {} .decl w(x: W) .decl p(x: number)")
		p.Types[0].Ctors[0].Fields = columns(n)
		args := slices.Repeat([]api.Expr{{Kind: api.EAny}}, n)
		p.Clauses = []api.Clause{rule(atomOf("p", number(1)), on("w", api.Expr{Kind: api.ECon, S: "A", Kids: args}))}
		return p
	})
}

// P17.1: of registers there are 256 in a clause, whatever they are for; other clauses have them anew.
func TestManyRegisters(t *testing.T) {
	p := parsed(t, `.type B = N {} | O {a: B, b: B, c: B, d: B, e: B, f: B, g: B, h: B} .decl b(x: B) input .decl p(x: number)
		.decl q(a: number, b: number, c: number, d: number, e: number, f: number, g: number, h: number)`)
	any8 := slices.Repeat([]api.Expr{{Kind: api.EAny}}, 8)
	wide, leaf := on("q", any8...), api.Expr{Kind: api.ECon, S: "N"}
	apart := on("b", api.Expr{Kind: api.ECon, S: "O", Kids: append(any8[:7:7], leaf)}) // 9 registers
	with := func(clauses ...api.Clause) api.Prog {
		made := p
		made.Clauses = clauses
		return made
	}
	one := atomOf("p", number(1))
	lets := func(n int) []api.Lit {
		var all []api.Lit
		for _, x := range variables(n) {
			all = append(all, compared(number(3), "=", x))
		}
		return all
	}
	narrow := slices.Repeat([]api.Lit{on("p", api.Expr{Kind: api.EAny})}, 30)
	just(t, "registers", 256, func(n int) api.Prog {
		return with(rule(one, append(slices.Repeat([]api.Lit{wide}, n/8-1), narrow[:n%8+8]...)...))
	})
	just(t, "registers of several clauses", 256, func(n int) api.Prog {
		first := rule(one, append(slices.Repeat([]api.Lit{wide}, n/8), lets(n%8)...)...)
		return with(first, rule(one, slices.Repeat([]api.Lit{wide}, 32)...), rule(one, lets(40)...), first)
	})
	just(t, "registers of matches", 256, func(n int) api.Prog {
		return with(rule(one, append(slices.Repeat([]api.Lit{apart}, 8), slices.Concat(slices.Repeat([]api.Lit{wide}, 22), lets(n-248))...)...))
	})
	just(t, "registers of a recursive clause", 256, func(n int) api.Prog {
		return with(rule(atomOf("q", slices.Repeat([]api.Expr{number(1)}, 8)...), append(slices.Repeat([]api.Lit{wide}, n/8), lets(n%8)...)...))
	})
}

// P17.1: nodes lie within one another 64 times, the outermost one among them.
func TestDeepNodes(t *testing.T) {
	p := parsed(t, ".type T = Leaf {} | Node {v: number, l: T} .decl e(x: number) .decl t(x: T) .decl p(x: number) .decl o()")
	with := func(head api.Atom, body ...api.Lit) api.Prog {
		made := p
		made.Clauses = []api.Clause{rule(head, body...)}
		return made
	}
	one, x := atomOf("p", number(1)), variable("x")
	for what, l := range map[string]api.Lit{
		"atoms of no column": on("o"),
		"atoms":              on("e", api.Expr{Kind: api.EAny}),
		"comparisons":        compared(number(1), "<", number(2)),
		"nots":               {Kind: api.LNot, Atom: atomOf("e", number(1))},
	} {
		just(t, what, 62, func(n int) api.Prog { return with(one, slices.Repeat([]api.Lit{l}, n)...) })
	}
	just(t, "atoms of a number", 31, func(n int) api.Prog { return with(one, slices.Repeat([]api.Lit{on("e", number(1))}, n)...) })
	just(t, "atoms of one variable", 31, func(n int) api.Prog { return with(one, append(slices.Repeat([]api.Lit{on("e", x)}, n), on("o"))...) })
	just(t, "a value's parts", 61, func(n int) api.Prog {
		list := api.Expr{Kind: api.EAny}
		for range n {
			list = api.Expr{Kind: api.ECon, S: "Node", Kids: []api.Expr{{Kind: api.EAny}, list}}
		}
		return with(one, on("t", list))
	})
	just(t, "a recursive clause", 58, func(n int) api.Prog {
		return with(one, append(slices.Repeat([]api.Lit{on("o")}, n), on("p", number(1)))...)
	})
	just(t, "a recursive clause with one atom", 60, func(n int) api.Prog {
		return with(atomOf("o"), append(slices.Repeat([]api.Lit{on("e", api.Expr{Kind: api.EAny})}, n-1), on("o"))...)
	})
	just(t, "a recursive clause of its own atoms", 60, func(n int) api.Prog { return with(atomOf("o"), slices.Repeat([]api.Lit{on("o")}, n)...) })
}

// P17.1: expressions lie within one another 32 times, wherever they stand.
func TestDeepExpressions(t *testing.T) {
	p := parsed(t, ".type T = Leaf {} | Node {v: number, l: T} .decl e(x: number) .decl t(x: T) .decl p(x: number) .decl o(x: T)")
	sum := func(n int) api.Expr {
		x := variable("x")
		for i := range n - 1 {
			x = api.Expr{Kind: api.EOp, S: "+", Kids: []api.Expr{x, number(i)}}
			if i%2 == 0 {
				slices.Reverse(x.Kids)
			}
		}
		return x
	}
	list := func(n int) api.Expr {
		x := variable("y")
		for i := range n - 1 {
			x = api.Expr{Kind: api.ECon, S: "Node", Kids: []api.Expr{number(i), x}}
		}
		return x
	}
	for what, c := range map[string]func(n int) api.Clause{
		"in a head":                 func(n int) api.Clause { return rule(atomOf("p", sum(n)), on("e", variable("x"))) },
		"a constructor's in a head": func(n int) api.Clause { return rule(atomOf("o", list(n)), on("t", variable("y"))) },
		"on the left of a comparison": func(n int) api.Clause {
			return rule(atomOf("p", number(1)), on("e", variable("x")), compared(sum(n), "<", number(1)))
		},
		"on its right": func(n int) api.Clause {
			return rule(atomOf("p", number(1)), on("e", variable("x")), compared(number(1), "!=", sum(n)))
		},
		"that gives a value": func(n int) api.Clause {
			return rule(atomOf("p", number(1)), on("e", variable("x")), compared(sum(n), "=", variable("z")))
		},
		"in an atom": func(n int) api.Clause { return rule(atomOf("p", number(1)), on("e", variable("x")), on("e", sum(n))) },
		"in a not": func(n int) api.Clause {
			return rule(atomOf("p", number(1)), on("e", variable("x")), api.Lit{Kind: api.LNot, Atom: atomOf("e", sum(n))})
		},
		"a constructor's in a not": func(n int) api.Clause {
			return rule(atomOf("p", number(1)), on("t", variable("y")), api.Lit{Kind: api.LNot, Atom: atomOf("t", list(n))})
		},
	} {
		just(t, what, 32, func(n int) api.Prog {
			made := p
			made.Clauses = []api.Clause{c(n)}
			return made
		})
	}
}

// P17.1: of nodes and expressions there are 4096 in all.
func TestManyNodes(t *testing.T) {
	const decls = ".type T = Leaf {} | Node {v: number, l: T} .decl e(x: number, y: number) .decl t(x: T) .decl p(x: number, y: number) .decl o() "
	for text, size := range map[string]int{
		"p(1, 2).":              3,
		"p(1, 2 + 3).":          5,
		"t($Leaf()).":           2,
		"t($Node(1, $Leaf())).": 4,
		"p(x, y) :- e(x, y).":   4,
		"p(x, y) :- e(x, y), !p2(y). .decl p2(x: number)": 6,
		"p(x, x) :- e(x, x).":                             7,
		"p(x, 1) :- e(x, 1 * x).":                         9,
		"p(x, 1) :- e(x, _).":                             4,
		"p(x, y) :- e(x, _), y = x + 1.":                  8,
		"p(x, y) :- e(x, y), x + 1 < y.":                  9,
		"p(x, x) :- t($Node(x, $Node(_, $Leaf()))).":      7,
		"p(x, x) :- t($Node(x, $Node(x, _))).":            9,
	} {
		p := parsed(t, decls+text)
		just(t, text, api.MaxCode, func(n int) api.Prog {
			made := p
			made.Clauses = append(slices.Repeat(p.Clauses, (n-1)/size), slices.Repeat([]api.Clause{rule(atomOf("o"))}, (n-1)%size)...)
			return made
		})
	}
	// In a loop: five nodes of p's own (a merge, the loop, a clear, a swap, a merge), and of each clause what it is, once or as often as it has atoms of p.
	for text, size := range map[string]int{
		"p(x, y) :- p(x, y).":                   7,
		"p(x, z) :- e(x, y), p(y, z).":          11,
		"p(x, z) :- p(x, y), p(y, z).":          22,
		"p(x, 1) :- p(x, y), p(y, _), p(_, 1).": 45,
	} {
		p := parsed(t, decls+text)
		just(t, text, api.MaxCode, func(n int) api.Prog {
			made := p
			made.Clauses = append(slices.Repeat(p.Clauses, (n-6)/size), slices.Repeat([]api.Clause{rule(atomOf("o"))}, (n-6)%size)...)
			return made
		})
	}
}

// P17.1: a constructor's name that is no word, or too long a one, may be no RAM program's.
func TestConstructorsOfNoWord(t *testing.T) {
	for name, small := range map[string]bool{"A": true, strings.Repeat("A", 64): true, strings.Repeat("A", 65): false, "": false, "a b": false, "1": false} {
		for _, text := range []string{"p() :- w($A()).", "w($A()).", "p() :- !w($A())."} {
			p := parsed(t, ".type W = A {} .decl w(x: W) .decl p() ")
			if m, is := Lower(p); !is || len(m.Widths) != 2 {
				t.Errorf("%v", is)
			}
			p.Clauses = parsed(t, text).Clauses
			p.Types[0].Ctors[0].Name = name
			for i := range p.Clauses {
				head, body := p.Clauses[i].Head.Args, p.Clauses[i].Body
				if len(body) > 0 {
					head = body[0].Atom.Args
				}
				head[0].S = name
			}
			if _, is := Lower(p); is != small || rules.Check(p).Why != api.OK {
				t.Errorf("%q in %s: %v", name, text, is)
			}
		}
	}
}

// R1: what is as large as it may be ends soon.
func TestLarge(t *testing.T) {
	const n = 1 << 14
	x := variable("x")
	decls := []api.Decl{{Name: "p", Cols: columns(1)}, {Name: "q", Cols: columns(1)}, {Name: "o"}}
	with := func(clauses ...api.Clause) api.Prog { return api.Prog{Decls: decls, Clauses: clauses} }
	one := atomOf("p", number(1))
	sum, list := x, x
	for range n {
		sum = api.Expr{Kind: api.EOp, S: "+", Kids: []api.Expr{sum, number(1)}}
		list = api.Expr{Kind: api.ECon, S: "Node", Kids: []api.Expr{{Kind: api.EAny}, list}}
	}
	wide := api.Prog{
		Types:   []api.TypeDecl{{Name: "T", Ctors: []api.Ctor{{Name: "Node", Fields: []api.Field{{Name: "v", Type: "T"}, {Name: "l", Type: "T"}}}}}},
		Decls:   []api.Decl{{Name: "t", Cols: []api.Field{{Name: "x", Type: "T"}}}, {Name: "o"}},
		Clauses: []api.Clause{rule(atomOf("o"), on("t", list))},
	}
	great := compared(number(0), "<", number(0))
	for range 1 << 9 {
		great.L = api.Expr{Kind: api.EOp, S: "+", Kids: []api.Expr{great.L, number(1)}}
	}
	for what, p := range map[string]api.Prog{
		"atoms of its own":           with(rule(atomOf("o"), slices.Repeat([]api.Lit{on("o")}, n)...)),
		"atoms of another one":       with(rule(atomOf("o"), slices.Repeat([]api.Lit{on("p", x)}, n)...)),
		"clauses":                    with(slices.Repeat([]api.Clause{rule(one, on("p", x), on("q", x))}, n)...),
		"facts":                      with(slices.Repeat([]api.Clause{rule(one)}, n)...),
		"a sum":                      with(rule(one, on("q", x), compared(sum, ">", x))),
		"a sum in a head":            with(rule(atomOf("p", sum), on("q", x))),
		"a pattern":                  wide,
		"own atoms and great others": with(rule(atomOf("o"), slices.Concat(slices.Repeat([]api.Lit{on("o")}, 62), slices.Repeat([]api.Lit{great}, 60))...)),
		"many such":                  with(slices.Repeat([]api.Clause{rule(atomOf("o"), slices.Repeat([]api.Lit{on("o")}, 60)...)}, 1000)...),
	} {
		if fault := rules.Check(p); fault.Why != api.OK {
			t.Fatalf("%s: %v", what, fault)
		}
		refused(t, what, p)
	}
	many := bare(1<<15, 1<<15)
	refused(t, "Decls", many)
	if names := Names(many); len(names) != 1<<15 || names[77] != "r77" {
		t.Errorf("%d names", len(names))
	}
}

// P17.1, R6: what a part has beside what its Kind needs turns nothing.
func TestNeedless(t *testing.T) {
	p := parsed(t, world+".decl p(x: number, y: number) p(x, 3) :- e(x, 2), !n(x + 1), x < 5, z = x, s(\"a\", z), !t($Leaf()), on().")
	want := lowered(t, p)
	odd := []api.Expr{variable("z"), {Kind: -1}, {Kind: api.EOp}, {Kind: api.ECon, Kids: []api.Expr{variable("z")}}}
	c := &p.Clauses[0]
	plain := []*api.Expr{&c.Head.Args[0], &c.Head.Args[1], &c.Body[0].Atom.Args[0], &c.Body[0].Atom.Args[1], &c.Body[2].L, &c.Body[2].R, &c.Body[3].L, &c.Body[3].R, &c.Body[4].Atom.Args[0]}
	for _, x := range append(plain, &c.Body[1].Atom.Args[0], &c.Body[5].Atom.Args[0]) {
		x.At = 77
		if x.Kind != api.ENum {
			x.N = 9
		} else {
			x.S = "x"
		}
	}
	for _, x := range plain {
		x.Kids = odd
	}
	for i := range c.Body {
		l := &c.Body[i]
		l.At = 99
		if l.Kind == api.LCmp {
			l.Atom = atomOf("p", odd...)
		} else {
			l.Op, l.L, l.R = "=", variable("w"), odd[1]
		}
	}
	m := lowered(t, p)
	given := facts(t, `e(1, 2). e(3, 2). e(4, 2). e(1, 1). e(7, 2). n(4). s("a", 1). s("b", 4). s("a", 7). s("a", 3). on().`)
	got, e := ran(p, m, given)
	if !ram.Same(m, want) || e != api.OK || got[len(got)-1] != "p(1, 3)" || slices.Contains(got, "p(3, 3)") || slices.Contains(got, "p(7, 3)") {
		t.Errorf("%q, %v; %+v", got, e, m)
	}
}
