package pass

import (
	"math"
	"strings"
	"testing"

	"vestry/api"
	"vestry/rules"
	"vestry/show"
	"vestry/syn"
)

// parsed: the program of a text.
func parsed(t *testing.T, text string) api.Prog {
	t.Helper()
	p, fault := syn.Parse(text)
	if fault.Why != api.OK {
		t.Fatalf("%q: %v", text, fault)
	}
	return p
}

// shown: a program as a text.
func shown(p api.Prog) string {
	text, _ := show.Show(p)
	return text
}

// call is one of Fold, Trim, Alias and Inline.
type call func(p api.Prog) (api.Prog, bool)

// best is Best as such a call.
func best(p api.Prog) (api.Prog, bool) {
	q := Best(p)
	return q, !syn.Same(p, q)
}

// becomes: a call makes of a program another one, and tells that.
func becomes(t *testing.T, do call, text, want string) {
	t.Helper()
	p, q := parsed(t, text), parsed(t, want)
	if fault := rules.Check(p); fault.Why != api.OK {
		t.Fatalf("%s: not taken: %v", text, fault)
	}
	got, turned := do(p)
	if !syn.Same(got, q) || !turned {
		t.Errorf("%s\nbecomes\n%s%v, want\n%s", text, shown(got), turned, shown(q))
	}
	if fault := rules.Check(got); fault.Why != api.OK {
		t.Errorf("%s\nbecomes what is not taken: %v", text, fault)
	}
}

// stays: a call leaves a program that is taken as it is, and tells that.
func stays(t *testing.T, do call, text string) {
	t.Helper()
	p := parsed(t, text)
	if fault := rules.Check(p); fault.Why != api.OK {
		t.Fatalf("%s: not taken: %v", text, fault)
	}
	if got, turned := do(p); !syn.Same(got, p) || turned {
		t.Errorf("%s\nbecomes\n%s%v", text, shown(got), turned)
	}
}

// world: types and relations for Clauses.
const world = `
.type T = Leaf {} | Node {v: number, l: T}
.decl e(x: number) input .decl f(x: number, y: number) input .decl s(x: symbol) input
.decl a(x: number) .decl b(x: number) .decl c(x: number, y: number) .decl z() .decl t(x: T)
.decl p(x: number) output .decl q(x: number, y: number) output
`

// without: the world without some Decls.
func without(names string) string {
	text := world
	for name := range strings.FieldsSeq(names) {
		start := strings.Index(text, ".decl "+name+"(")
		end := start + 1 + strings.IndexAny(text[start+1:], ".\n")
		text = text[:start] + text[end:]
	}
	return text
}

// P14.1: operators of two numbers become numbers, wherever they stand.
func TestFoldOperators(t *testing.T) {
	for text, want := range map[string]string{
		"p(1 + 2).":                                "p(3).",
		"p(7 - 9).":                                "p(-2).",
		"p(6 * 7).":                                "p(42).",
		"p(-7 / 2).":                               "p(-3).",
		"p(-7 % 2).":                               "p(-1).",
		"p(-(5)).":                                 "p(-5).",
		"p(1 + 2 * 3 - 4).":                        "p(3).",
		"p((1 + 2) * (3 - (4 - 5))).":              "p(12).",
		"p(x + (1 + 2)) :- e(x).":                  "p(x + 3) :- e(x).",
		"p(1 + 2 + x) :- e(x).":                    "p(3 + x) :- e(x).",
		"p(1 + x + 2 + 3 * 4) :- e(x).":            "p(1 + x + 2 + 12) :- e(x).",
		"q(1 + 1, 2 * x) :- e(x).":                 "q(2, 2 * x) :- e(x).",
		"p(x) :- f(x, 1 + 2).":                     "p(x) :- f(x, 3).",
		"p(x) :- e(x), !f(x, 2 - 2).":              "p(x) :- e(x), !f(x, 0).",
		"p(x) :- e(x), x < 1 + 2.":                 "p(x) :- e(x), x < 3.",
		"p(x) :- e(x), 4 / 2 != x.":                "p(x) :- e(x), 2 != x.",
		"p(x) :- x = 3 * 3.":                       "p(x) :- x = 9.",
		"p(x) :- 3 * 3 = x.":                       "p(x) :- 9 = x.",
		"t($Node(1 + 2, $Leaf())).":                "t($Node(3, $Leaf())).",
		"p(x) :- t($Node(x, $Node(1 + 1, _))).":    "p(x) :- t($Node(x, $Node(2, _))).",
		"p(1) :- t(x), x = $Node(5 % 3, $Leaf()).": "p(1) :- t(x), x = $Node(2, $Leaf()).",
		"p(9223372036854775806 + 1).":              "p(9223372036854775807).",
		"p((-9223372036854775807 - 1) % -1).":      "p(0).",
		"p((-9223372036854775807 - 1) / 2).":       "p(-4611686018427387904).",
		"a(1 + 1). p(2 + 2). e(3 + 3).":            "a(2). p(4). e(6).",
	} {
		becomes(t, Fold, world+text, world+want)
	}
}

// P14.1: an operator of two numbers without a value stays, while its Kids, and what is beside it, are folded.
func TestFoldNoValue(t *testing.T) {
	for _, text := range []string{
		"p(1 / 0).", "p(1 % 0).", "p(0 / 0).", "p(9223372036854775807 + 1).", "p(-9223372036854775807 - 2).",
		"p(4611686018427387904 * 2).", "p(1 / 0 + 2).", "p(2 * (1 % 0)).",
		"p(x) :- e(x), 1 / 0 < 2.", "p(x) :- e(x), 1 / 0 = 1 / 0.", "p(x) :- x = 1 / 0.", "p(x) :- f(x, 1 / 0).",
		"p(x + y) :- f(x, y).", "p(x + 0) :- e(x).", "p(x * 0) :- e(x).", "p(1 * x) :- e(x).", "p(x - x) :- e(x).",
	} {
		stays(t, Fold, world+text)
	}
	becomes(t, Fold, world+"p((1 + 2) / (3 - 3)).", world+"p(3 / 0).")
	becomes(t, Fold, world+"p((0 - 9223372036854775807) - 2).", world+"p(-9223372036854775807 - 2).")
	becomes(t, Fold, world+"q(1 / 0, 1 + 0).", world+"q(1 / 0, 1).")
	becomes(t, Fold, world+"p(x) :- e(x), (4 + 4) % (1 - 1) < x, 1 < 2.", world+"p(x) :- e(x), 8 % 0 < x.")
}

// P14.1: the least number is folded to and from, but not divided by -1.
func TestFoldLeast(t *testing.T) {
	p := parsed(t, world+"q((-9223372036854775807 - 1) / -1, -9223372036854775807 - 1).")
	q, turned := Fold(p)
	args := q.Clauses[0].Head.Args
	if args[0].Kind != api.EOp || args[0].Kids[0].N != math.MinInt64 || args[1].Kind != api.ENum || args[1].N != math.MinInt64 || !turned {
		t.Errorf("%+v", args)
	}
	if _, turned := Fold(q); turned {
		t.Error("it turns again")
	}
}

// P14.1: a number has the At of the operator that it was, and nothing else of it.
func TestFoldAt(t *testing.T) {
	text := world + "p(x) :- e(x), x < (1 + 2) * 3, x != -(4 + 5), f(x, 7 - 1)."
	p := parsed(t, text)
	q, turned := Fold(p)
	body := q.Clauses[0].Body
	for what, c := range map[string]struct {
		got  api.Expr
		n    int
		from string
	}{
		"a product":     {body[1].R, 9, "1 + 2) * 3"},
		"a minus ahead": {body[2].R, -9, "-(4 + 5)"},
		"an Arg":        {body[3].Atom.Args[1], 6, "7 - 1"},
	} {
		if c.got.Kind != api.ENum || c.got.N != c.n || c.got.At != strings.Index(text, c.from) || c.got.S != "" || len(c.got.Kids) != 0 {
			t.Errorf("%s: %+v", what, c.got)
		}
	}
	if body[1].L.At != p.Clauses[0].Body[1].L.At || q.Clauses[0].At != p.Clauses[0].At || body[3].At != p.Clauses[0].Body[3].At || !turned {
		t.Errorf("%+v", q)
	}
}

// P14.1: comparisons of two numbers that hold go; a Clause with one that does not hold goes.
func TestFoldComparisons(t *testing.T) {
	for sign, holds := range map[string]string{"=": "=", "!=": "<>", "<": "<", "<=": "<=", ">": ">", ">=": ">="} {
		for order, pair := range map[string]string{"<": "1 % 2", "=": "2 % 2", ">": "3 % 2"} {
			clause := "p(x) :- e(x), " + strings.Replace(pair, "%", sign, 1) + ", x > 5. p(7)."
			want := "p(7)."
			if strings.Contains(holds, order) {
				want = "p(x) :- e(x), x > 5. p(7)."
			}
			becomes(t, Fold, world+clause, world+want)
		}
	}
	for text, want := range map[string]string{
		"p(3) :- 1 < 2.":                                 "p(3).",
		"p(3) :- 1 < 2, 2 < 3, 4 = 2 + 2.":               "p(3).",
		"p(x) :- 1 < 2, e(x), 2 + 3 = 5, x < 4, 3 >= 3.": "p(x) :- e(x), x < 4.",
		"p(x) :- e(x), 1 < 2, 2 < 1.":                    "",
		"p(x) :- 2 < 1, e(x), 1 < 2. p(1 + 1).":          "p(2).",
		"p(x) :- e(x), 1 / 0 = x, 1 > 2.":                "",
		"a(x) :- e(x), 1 = 2. p(x) :- a(x).":             "p(x) :- a(x).",
		"z() :- 1 = 1.":                                  "z().",
		"z() :- 1 != 1.":                                 "",
		"p(1) :- -1 < 0, \"a\" = \"a\".":                 "p(1) :- \"a\" = \"a\".",
	} {
		becomes(t, Fold, world+text, world+want)
	}
}

// P14.1: comparisons of anything else stay, and so does a program in which nothing can be folded.
func TestFoldStays(t *testing.T) {
	for _, text := range []string{
		"", "p(1).", "p(x) :- e(x).",
		"p(1) :- \"a\" = \"a\".", "p(1) :- \"a\" = \"b\".", "p(1) :- \"a\" != \"a\".", "p(1) :- \"a\" != \"b\".",
		"p(1) :- $Leaf() = $Leaf().", "p(1) :- $Leaf() != $Leaf().", "p(x) :- e(x), x = x.", "p(x) :- e(x), x < x.",
		"p(x) :- e(x), 1 < x.", "p(x) :- x = 1.", "p(x) :- 1 = x.", "p(x) :- s(\"1\"), e(x).",
		"p(x) :- e(x), a(x), !b(x).", "a(x) :- b(x). b(x) :- a(x).",
	} {
		stays(t, Fold, world+text)
	}
	stays(t, Fold, "")
	stays(t, Fold, ".decl a()")
}

// P14.1: trimming leaves the outputs and what they hang on, and of the others inputs alone.
func TestTrim(t *testing.T) {
	for _, c := range []struct{ text, want string }{
		{
			".decl e(x: number) input .decl a(x: number) .decl p(x: number) output a(x) :- e(x). p(x) :- e(x).",
			".decl e(x: number) input .decl p(x: number) output p(x) :- e(x).",
		},
		{
			".decl a() .decl b() .decl c() .decl d() .decl p() output p() :- a(), !b(). a() :- c(). c(). b() :- !c(). d() :- a(), p().",
			".decl a() .decl b() .decl c() .decl p() output p() :- a(), !b(). a() :- c(). c(). b() :- !c().",
		},
		{
			".decl a() .decl b() .decl c() .decl p() output p() :- !a(). a() :- !b(). b() :- b(). c() :- c().",
			".decl a() .decl b() .decl p() output p() :- !a(). a() :- !b(). b() :- b().",
		},
		{
			".decl a() input .decl b() .decl c() input output .decl d() a() :- b(). b() :- c(). c() :- d().",
			".decl a() input .decl c() input output .decl d() c() :- d().",
		},
		{
			".decl a() .decl b() input .decl c() a(). b(). b() :- a(). c() :- a().",
			".decl b() input",
		},
		{".decl a() .decl b() .decl p() output", ".decl p() output"},
		{".type T = A {} .decl a(x: T) .decl p() output a($A()).", ".type T = A {} .decl p() output"},
		{".decl p() output .decl a() .decl q() output p() :- q(). q() :- p(). a() :- a().", ".decl p() output .decl q() output p() :- q(). q() :- p()."},
		{".decl a() a() :- a().", ""},
	} {
		becomes(t, Trim, c.text, c.want)
	}
}

// P14.1: where nothing goes, trimming turns nothing; what could be folded is not.
func TestTrimStays(t *testing.T) {
	for _, text := range []string{
		"", ".decl a() input", ".decl a() output a().", ".type T = A {}",
		".decl a() input .decl b() output b() :- a().",
		".decl a() .decl b() output b() :- a().",
		".decl a() input .decl p(x: number) output p(1 + 2) :- 1 < 2. p(3) :- 2 < 1.",
		".decl a() .decl b() .decl p() output p() :- !a(). a() :- b(). a(). a() :- a().",
	} {
		stays(t, Trim, text)
	}
}
