package rules

import (
	"slices"
	"strings"
	"testing"

	"vestry/api"
	"vestry/syn"
)

// parsed: the program of a text.
func parsed(t *testing.T, text string) api.Prog {
	t.Helper()
	p, fault := syn.Parse(text)
	if fault.Why != api.OK {
		t.Fatalf("%q: %v", text, fault)
	}
	return p
}

// bare: the program of Clauses over relations without columns, of these names.
func bare(t *testing.T, names, clauses string) api.Prog {
	t.Helper()
	var text strings.Builder
	for _, name := range strings.Fields(names) {
		text.WriteString(".decl " + name + "() ")
	}
	return parsed(t, text.String()+clauses)
}

// world: types and relations for clauses. What hangs on p, t or q by them is told clause by clause.
const world = `
.type T = Leaf {} | Node {v: number, l: T}
.decl e(x: number) .decl p(x: number) .decl pp(x: number, y: number)
.decl q(x: number) .decl f(x: T) .decl t(x: T) .decl s(x: symbol) .decl y(x: symbol) .decl no()
`

// checks: Check and Strata answer this error at the place of the mark ^, and no strata.
func checks(t *testing.T, why api.Errno, text string) {
	t.Helper()
	p := parsed(t, strings.Replace(text, "^", "", 1))
	want := api.Fault{Why: why, At: strings.Index(text, "^")}
	if fault := Check(p); fault != want {
		t.Errorf("%s: %v, want %v", text, fault, want)
	}
	if rows, fault := Strata(p); fault != want || len(rows) != 0 {
		t.Errorf("%s: Strata: %v %v, want %v", text, rows, fault, want)
	}
}

// takes: Check and Strata answer no fault.
func takes(t *testing.T, text string) {
	t.Helper()
	p := parsed(t, text)
	if fault := Check(p); fault != (api.Fault{}) {
		t.Errorf("%s: %v, want none", text, fault)
	}
	if _, fault := Strata(p); fault != (api.Fault{}) {
		t.Errorf("%s: Strata: %v, want none", text, fault)
	}
}

// listed: strata as `a, b c, d`.
func listed(rows [][]string) string {
	var all []string
	for _, row := range rows {
		all = append(all, strings.Join(row, " "))
	}
	return strings.Join(all, ", ")
}

// ordered: the strata of Clauses over relations without columns.
func ordered(t *testing.T, names, clauses, want string) {
	t.Helper()
	rows, fault := Strata(bare(t, names, clauses))
	if got := listed(rows); got != want || fault != (api.Fault{}) {
		t.Errorf("%s of %s: %s %v, want %s", clauses, names, got, fault, want)
	}
}

// P13.1: what hangs on what: of each relation all others, and itself, are asked for.
func TestHangs(t *testing.T) {
	for _, c := range []struct {
		clauses string
		want    string // each relation with those that it hangs on
	}{
		{"", ""},
		{"a(). b().", ""},
		{"a() :- b().", "a b"},
		{"a() :- !b().", "a b"},
		{"a() :- 1 < 2.", ""},
		{"a() :- a().", "a a"},
		{"a() :- !a().", "a a"},
		{"a() :- b(), !c().", "a bc"},
		{"a() :- b(). b() :- c().", "a bc, b c"},
		{"b() :- c(). a() :- b().", "a bc, b c"},
		{"a() :- !b(). b() :- !c(). c() :- !d().", "a bcd, b cd, c d"},
		{"a() :- b(). b() :- !c(). c() :- d(). d() :- !x().", "a bcdx, b cdx, c dx, d x"},
		{"a() :- b(). b() :- a().", "a ab, b ab"},
		{"a() :- !b(). b() :- !a().", "a ab, b ab"},
		{"a() :- b(). b() :- !c(). c() :- a().", "a abc, b abc, c abc"},
		{"a() :- b(). b() :- c(). c() :- d(). d() :- a().", "a abcd, b abcd, c abcd, d abcd"},
		{"a() :- b(). b() :- c(). c() :- b(). c() :- d().", "a bcd, b bcd, c bcd"},
		{"a() :- a(), b(). b() :- c().", "a abc, b c"},
		{"a() :- b(). a() :- !c(). a(). c() :- d().", "a bcd, c d"},
		{"a() :- b(), b(), c(), b().", "a bc"},
		{"a() :- c(). b() :- c(). d() :- a(), b().", "a c, b c, d abc"},
		{"a() :- b(). c() :- d(). d() :- c().", "a b, c cd, d cd"},
	} {
		p := bare(t, "a b c d x", c.clauses)
		hung := map[string]string{}
		for row := range strings.SplitSeq(c.want, ", ") {
			name, others, _ := strings.Cut(row, " ")
			hung[name] = others
		}
		for a := range strings.SplitSeq("abcdx", "") {
			for b := range strings.SplitSeq("abcdx", "") {
				if got := Hangs(p, a, b); got != strings.Contains(hung[a], b) {
					t.Errorf("%q: %s hangs on %s: %v", c.clauses, a, b, got)
				}
			}
		}
	}
}

// P13.1: what stands in comparisons and as variables, and what other Clauses' heads have, is no relation that is hung on.
func TestHangsByBodiesAlone(t *testing.T) {
	p := parsed(t, world+"p(e) :- q(e), q = e, q < 3. t($Node(1, $Leaf())). q(x) :- e(x).")
	for pair, want := range map[[2]string]bool{
		{"p", "q"}: true, {"p", "e"}: true, {"q", "e"}: true,
		{"q", "p"}: false, {"e", "q"}: false, {"t", "p"}: false, {"p", "p"}: false,
		{"t", "Leaf"}: false, {"p", "x"}: false, {"p", ""}: false, {"p", "P"}: false, {"p", "q "}: false,
	} {
		if got := Hangs(p, pair[0], pair[1]); got != want {
			t.Errorf("%v: %v", pair, got)
		}
	}
}

// P13.1: names that no Decl has: those that Clauses have hang as the Clauses say, others on nothing.
func TestHangsOfNoDecl(t *testing.T) {
	p := parsed(t, ".decl d() n() :- m(). m() :- !d(). m() :- n(). d() :- k().")
	for pair, want := range map[[2]string]bool{
		{"n", "m"}: true, {"n", "d"}: true, {"n", "k"}: true, {"n", "n"}: true, {"m", "m"}: true, {"d", "k"}: true,
		{"k", "d"}: false, {"d", "n"}: false, {"k", "k"}: false, {"x", "m"}: false, {"n", "x"}: false, {"x", "x"}: false, {"", ""}: false, {"n", ""}: false,
	} {
		if got := Hangs(p, pair[0], pair[1]); got != want {
			t.Errorf("%v: %v", pair, got)
		}
	}
	if Hangs(api.Prog{}, "", "") || Hangs(api.Prog{}, "a", "a") || Hangs(api.Prog{}, "a", "b") {
		t.Error("something hangs in a program of nothing")
	}
}

// P13.1: Hangs and Recursive look at Clauses alone, in programs that Check refuses too: not flat, of wrong types, with Decls of one name.
func TestHangsRefused(t *testing.T) {
	p := parsed(t, ".type A <: A .comp C { .decl r() r() :- r(). a() :- k(). } .init i = C .decl a() .decl a(x: X) .decl b() a(x) :- b(1), !c(\"x\"). b() :- a(y).")
	if Check(p).Why == api.OK {
		t.Fatal("it is taken")
	}
	for pair, want := range map[[2]string]bool{
		{"a", "b"}: true, {"a", "c"}: true, {"a", "a"}: true, {"b", "c"}: true, {"b", "a"}: true,
		{"c", "a"}: false, {"r", "r"}: false, {"i.r", "i.r"}: false, {"a", "k"}: false,
	} {
		if got := Hangs(p, pair[0], pair[1]); got != want {
			t.Errorf("%v: %v", pair, got)
		}
	}
	for i, c := range p.Clauses {
		if !Recursive(p, c) {
			t.Errorf("clause %d is not recursive", i)
		}
	}
}

// P13.1: which of a program's clauses are recursive.
func TestRecursive(t *testing.T) {
	for _, c := range []struct {
		clauses string
		want    string // a letter for each clause: r, if it is recursive
	}{
		{"a(). a() :- 1 < 2.", "--"},
		{"a() :- b(). b() :- c().", "--"},
		{"a() :- a().", "r"},
		{"a() :- !a().", "-"},
		{"a() :- a(), !a().", "r"},
		{"a() :- !a(), a().", "r"},
		{"a() :- b(), c(), a(), d().", "r"},
		{"a() :- b(). a() :- a(). a().", "-r-"},
		{"a() :- b(). b() :- a().", "rr"},
		{"a() :- b(). b() :- !a().", "r-"},
		{"a() :- !b(). b() :- !a().", "--"},
		{"a() :- !b(), c(). b() :- a(), d().", "-r"},
		{"a() :- d(), b(), c(). b() :- a(). c() :- d().", "rr-"},
		{"a() :- b(). b() :- c(). c() :- d(). d() :- a(). x() :- a().", "rrrr-"},
		{"a() :- b(). b() :- b(). c() :- a().", "-r-"},
		{"a() :- !a(), b().", "-"},
		{"a() :- !a(). b() :- a(). a() :- b(). a() :- d().", "-rr-"},
	} {
		p := bare(t, "a b c d x", c.clauses)
		for i, clause := range p.Clauses {
			if got := Recursive(p, clause); got != (c.want[i] == 'r') {
				t.Errorf("%s: clause %d: %v", c.clauses, i, got)
			}
		}
	}
}

// P13.1: clauses that are none of the program's are recursive by what hangs on what in it.
func TestRecursiveOfOthers(t *testing.T) {
	p := bare(t, "a b c d x", "a() :- b(). b() :- a(). c() :- a(). d() :- !d().")
	for text, want := range map[string]bool{
		"a() :- a().":           true,
		"b() :- b().":           true,
		"b() :- !a(), b().":     true,
		"a() :- c(), b().":      true,
		"d() :- d().":           true,
		"d() :- !d().":          false,
		"a() :- !a().":          false,
		"c() :- c().":           false,
		"c() :- a().":           false,
		"a() :- c().":           false,
		"x() :- x().":           false,
		"a() :- none().":        false,
		"none() :- none().":     false,
		"none() :- a().":        false,
		"a(1, 2) :- b(_).":      true,
		"a().":                  false,
		"a() :- a = b.":         false,
		"a() :- x(), a(), x().": true,
	} {
		if got := Recursive(p, parsed(t, text).Clauses[0]); got != want {
			t.Errorf("%s: %v", text, got)
		}
	}
	for _, c := range []api.Clause{{}, {Body: []api.Lit{{}}}, {Body: []api.Lit{{Kind: api.LAtom}}}} {
		if Recursive(p, c) || Recursive(api.Prog{}, c) {
			t.Errorf("%+v is recursive", c)
		}
	}
}

// P13.2: a program that is taken.
func TestCheckTakes(t *testing.T) {
	for _, clauses := range []string{
		"", "p(1). p(2).", "p(x) :- e(x).", "p(x) :- p(x).", "p(x) :- q(x). q(x) :- p(x).",
		"p(x) :- e(x), !q(x).", "q(x) :- e(x), !p(x). p(x) :- p(x), e(x).",
		"p(x) :- q(x), !e(x). q(x) :- p(x), !e(x).",
		"p(x) :- e(x), !q(x). t(x) :- f(x), p(1). q(x) :- e(x), !s(\"a\"). s(x) :- y(x), s(x).",
		"p(x + 1) :- e(x). t($Leaf()). t($Node(1, x)) :- f(x).",
		"p(1 + 2).",
		"p(x) :- q(x). q(x + 1) :- e(x).",
	} {
		takes(t, world+clauses)
	}
	takes(t, "")
}

// P13.2: ErrStrat at the first LNot that is of the head's stratum.
func TestErrStrat(t *testing.T) {
	for _, clauses := range []string{
		"p(x) :- e(x), ^!p(x).",
		"p(x) :- p(x), ^!p(x).",
		"p(x) :- e(x), ^!q(x). q(x) :- p(x).",
		"q(x) :- p(x). p(x) :- e(x), ^!q(x).",
		"p(x) :- e(x), ^!q(x). q(x) :- e(x), !p(x).",
		"p(x) :- e(x), !e(x), ^!q(x), !p(x). q(x) :- p(x).",
		"p(x) :- e(x), ^!p(x), !q(x). q(x) :- p(x).",
		"p(x) :- e(x), ^! q(x). q(x) :- pp(x, 1). pp(x, x) :- s(\"a\"), e(x). s(x) :- y(x), p(1).",
		"no() :- ^!no().",
		"no() :- p(1), q(1), ^!q(1). q(1) :- no().",
		"p(x) :- e(x), !q(x). q(x) :- e(x). no() :- ^!no(). s(x) :- y(x), !s(x).",
		"p(x) :- q(x). p(x) :- e(x), ^!q(x). q(x) :- p(x).",
	} {
		checks(t, api.ErrStrat, world+clauses)
	}
}

// P13.2: an LNot of a relation that is below the head's stratum, beside it, or above it in no ring, is none; a ring beside it turns nothing.
func TestNotElsewhere(t *testing.T) {
	for _, clauses := range []string{
		"p(x) :- e(x), !q(x). q(x) :- q(x).",
		"p(x) :- p(x), !q(x). q(x) :- q(x), e(x).",
		"p(x) :- q(x), !s(\"a\"). q(x) :- p(x), !no(). no() :- s(\"b\"). s(x) :- y(x), s(x).",
		"p(x) :- e(x), !pp(x, x). q(x) :- p(x), !pp(x, x).",
	} {
		takes(t, world+clauses)
	}
}

// P13.2: ErrFinite at the first made argument of a recursive clause's head.
func TestErrFinite(t *testing.T) {
	for _, clauses := range []string{
		"p(^x + 1) :- p(x).",
		"p(^x - 1) :- q(x). q(x) :- p(x).",
		"p(x) :- q(x). q(^x * 2) :- p(x).",
		"p(^1 + 2) :- p(x).",
		"p(^x / 1) :- e(x), !q(x), p(y).",
		"p(^x % 3) :- p(x).",
		"t(^$Node(1, x)) :- t(x).",
		"t(^$Leaf()) :- t(x).",
		"t(^$Node(x + 1, $Leaf())) :- t($Node(x, _)).",
		"t(^$Node(1 + 2, y)) :- t($Node(x, y)).",
		"pp(x, ^y + 1) :- pp(x, y).",
		"pp(^x + 1, y + 1) :- pp(x, y).",
		"pp(1, ^y) :- pp(x, z), y = x + z.",
		"pp(x, ^y) :- pp(x, z), x + z = y.",
		"p(^y) :- p(x), y = x + 1.",
		"p(^y) :- p(x), x + 1 = y.",
		"t(^y) :- t(x), y = $Node(1, x).",
		"t(^y) :- t(x), $Leaf() = y.",
		"p(^z) :- p(x), y = x + 1, z = y.",
		"p(^z) :- p(x), x + 1 = y, y = z.",
		"p(^w) :- p(x), y = x + 1, z = y, z = v, w = v.",
		"p(^y) :- y = 1 + 2, p(x).",
		"p(^y) :- y = 1 + 2, p(y).",
		"p(^y) :- y = 1 + 2, e(y), y = 3, p(y).",
		"p(x) :- e(x). p(^x + 1) :- p(x).",
		"p(x) :- p(x). p(^y) :- p(x), y = x - x, y < 10.",
		"pp(x, ^y) :- x = 7, y = x + 1, pp(z, x).",
	} {
		checks(t, api.ErrFinite, world+clauses)
	}
}

// P13.2: what is not made, and what is made in a head whose clause is not recursive, is none.
func TestNotMade(t *testing.T) {
	for _, clauses := range []string{
		"p(1) :- p(x).",
		"s(\"a\") :- s(x).",
		"p(y) :- p(x), y = x.",
		"p(y) :- p(x), x = y.",
		"p(y) :- p(x), y = 1.",
		"s(y) :- s(x), \"b\" = y.",
		"p(z) :- p(x), y = x, z = y.",
		"p(x) :- p(x), e(y), x = y + 1.",
		"p(x) :- p(x), e(y), y + 1 = x.",
		"p(x) :- p(x), x = x + 0.",
		"p(x) :- p(x), y = x + 1.",
		"p(x) :- p(x), y = x + 1, y = x.",
		"p(x) :- p(x), y = x + 1, x = y.",
		"p(x) :- p(x), y = x + 1, e(y).",
		"p(x) :- e(x), p(x + 0).",
		"p(x) :- e(x), p(x + 1).",
		"p(x) :- t($Node(x, _)), p(x).",
		"t(y) :- t($Node(_, y)).",
		"t(y) :- t($Node(_, $Node(_, y))).",
		"t(y) :- t($Node(_, y)), y = $Leaf().",
		"t(y) :- t($Node(_, $Node(_, y))), $Leaf() = y.",
		"p(x) :- f($Node(x, _)), x = 1 + 2, p(x).",
		"t(y) :- t($Node(1, $Node(x, y))), y != $Leaf().",
		"pp(x, y) :- pp(y, x), x < y + 1, x != 1 + y.",
		"p(x) :- e(x), !q(x + 1), p(x).",
		"p(x + 1) :- e(x). e(x) :- e(x).",
		"p(y) :- e(x), y = x + 1, !q(y).",
		"p(x + 1) :- q(x). q(x) :- q(x).",
		"t($Node(1, x)) :- f(x). no() :- t(x), no().",
		"p(x + 1) :- q(x). q(x) :- e(x).",
	} {
		takes(t, world+clauses)
	}
}

// P13.2: a clause that is not recursive may make values, though its head's relation hangs on itself.
func TestMadeBesideARing(t *testing.T) {
	takes(t, world+"p(x) :- q(x). q(x) :- p(x). p(x + 1) :- e(x). q(y) :- e(x), y = x * 2. p(1 + 1).")
	takes(t, world+"t(x) :- t(x). t($Leaf()). t($Node(1, x)) :- f(x), !s(\"a\").")
	checks(t, api.ErrFinite, world+"p(x) :- p(x). p(x + 1) :- e(x). p(^x + 1) :- e(x), p(y).")
}

// P13.2: which fault counts, where several could be told.
func TestCheckOrder(t *testing.T) {
	for _, c := range []struct {
		why     api.Errno
		clauses string
	}{
		{api.ErrGround, "p(x) :- e(x), !p(x). p(x + 1) :- p(x). p(^x)."},
		{api.ErrNone, "p(x + 1) :- p(x). q(x) :- ^none(x)."},
		{api.ErrWidth, "no() :- !no(). ^no(1)."},
		{api.ErrType, "p(x) :- p(x), !p(x). s(^1)."},
		{api.ErrStrat, "p(x + 1) :- p(x), ^!p(x)."},
		{api.ErrStrat, "p(x + 1) :- q(x), ^!q(x). q(x) :- p(x)."},
		{api.ErrStrat, "p(x) :- e(x), ^!p(x). q(x + 1) :- q(x)."},
		{api.ErrFinite, "q(^x + 1) :- q(x). p(x) :- e(x), !p(x)."},
		{api.ErrFinite, "e(x) :- q(x), e(x). q(^x + 1) :- q(x). q(x + 2) :- q(x)."},
		{api.ErrStrat, "q(x + 1) :- e(x). p(x) :- e(x), ^!p(x). no() :- !no()."},
		{api.ErrFinite, "p(^x + 1) :- q(x). q(x) :- p(x), !q(x)."},
	} {
		checks(t, c.why, world+c.clauses)
	}
	checks(t, api.ErrArg, ".decl r() r() :- !r(). ^.comp C { }")
	checks(t, api.ErrArg, ".decl r() r() :- !r(). ^.init d = C")
	checks(t, api.ErrThere, ".decl r() r() :- !r(). ^.decl r()")
	checks(t, api.ErrRing, ".decl r() r() :- !r(). ^.type A <: A")
}

// P13.2: the strata in order: of those that could be next the one with the first Decl, and the names in each as the Decls stand.
func TestStrataInOrder(t *testing.T) {
	ordered(t, "", "", "")
	ordered(t, "a", "", "a")
	ordered(t, "a", "a() :- a().", "a")
	ordered(t, "a b", "a() :- b().", "b, a")
	ordered(t, "a b", "b() :- a().", "a, b")
	ordered(t, "a b", "b() :- a(). a() :- b().", "a b")
	ordered(t, "b a", "b() :- a(). a() :- b().", "b a")
	ordered(t, "a b c", "a() :- !b(). b() :- !c().", "c, b, a")
	ordered(t, "a b c", "a() :- c().", "b, c, a")
	ordered(t, "c b a", "a() :- c().", "c, b, a")
	ordered(t, "a b c d", "a() :- d(). b() :- c().", "c, b, d, a")
	ordered(t, "a b c d", "a() :- c(). b() :- d().", "c, a, d, b")
	ordered(t, "a b c d", "c() :- d(). d() :- c(). a() :- c().", "b, c d, a")
	ordered(t, "a b c d", "b() :- d(). d() :- b(). a() :- d(), !c().", "b d, c, a")
	ordered(t, "d c b a", "a() :- d(). d() :- b(). b() :- a(). c() :- b().", "d b a, c")
	ordered(t, "x a b c d", "a() :- b(). b() :- a(). c() :- d(). d() :- c(). a() :- !c(). x() :- !b().", "c d, a b, x")
	ordered(t, "x a b c d", "a() :- c(). c() :- a(). b() :- d(). d() :- b(). x() :- c().", "a c, x, b d")
	ordered(t, "a b c d x", "a() :- x(). b() :- x(). c() :- b(). d() :- a().", "x, a, b, c, d")
	ordered(t, "d c b a x", "a() :- x(). b() :- x(). c() :- b(). d() :- a().", "x, b, c, a, d")
	ordered(t, "a b c", "a() :- b(), b(), !b(). a() :- c(), b().", "b, c, a")
}

// P13.3: each relation hangs on those alone that stand in its own stratum or ahead.
func TestStrataOfWorld(t *testing.T) {
	p := parsed(t, world+"p(x) :- q(x). q(x) :- p(x), !s(\"a\"). s(x) :- y(x). t(x) :- f(x), p(1). t($Leaf()).")
	rows, fault := Strata(p)
	if got := listed(rows); got != "e, pp, f, y, s, p q, t, no" || fault != (api.Fault{}) {
		t.Errorf("%s %v", got, fault)
	}
}

// P13.4: what is one stratum hangs on each other; what hangs on the same, and on which the same hangs, without a ring, is not.
func TestStrataOfOne(t *testing.T) {
	ordered(t, "a b c d", "b() :- a(). c() :- a(). d() :- b(), c().", "a, b, c, d")
	ordered(t, "a b c d", "b() :- a(). c() :- a(). d() :- b(), c(). a() :- d().", "a b c d")
	ordered(t, "a b c d", "b() :- b(). c() :- c(). b() :- c().", "a, c, b, d")
}

// P13.5: a program without Clauses has each relation by itself, as the Decls stand.
func TestStrataWithoutClauses(t *testing.T) {
	names := strings.Fields("z y x p q r b a n m")
	ordered(t, strings.Join(names, " "), "", strings.Join(names, ", "))
	rows, _ := Strata(parsed(t, world))
	if !slices.EqualFunc(rows, strings.Fields("e p pp q f t s y no"), func(row []string, name string) bool { return len(row) == 1 && row[0] == name }) {
		t.Error(listed(rows))
	}
	if rows, fault := Strata(api.Prog{}); len(rows) != 0 || fault != (api.Fault{}) {
		t.Errorf("%v %v of nothing", rows, fault)
	}
}

// P13.2: the document's examples.
func TestExamples(t *testing.T) {
	checks(t, api.ErrStrat, ".decl e(x: number) .decl p(x: number) .decl q(x: number) p(x) :- e(x), ^!q(x). q(x) :- p(x).")
	checks(t, api.ErrFinite, ".decl n(x: number) n(^x + 1) :- n(x).")
	checks(t, api.ErrStrat, ".decl q(x: number) .decl p(x: number) p(x) :- q(x), ^!p(x).")
	takes(t, ".decl e(x: number, y: number) .decl p(x: number, y: number) .decl n(x: number) .decl u(x: number) p(x, y) :- e(x, y). p(x, z) :- e(x, y), p(y, z). u(x) :- n(x), !p(x, x).")
}
