package lower

import (
	"strconv"
	"strings"
	"testing"
)

// some: facts of the world.
const some = `e(1, 1). e(1, 2). e(2, 3). e(3, 2). e(2, 4). s("a", 1). s("b", 2). s("", 2). n(1). n(3). a(2). a(5). on().
	t($Leaf()). t($Node(1, $Leaf())). t($Node(2, $Node(2, $Leaf()))). t($Node(3, $Node(4, $Leaf()))). t($Node(2, $Node(1, $Leaf()))).`

// allLeave: clauses of a relation, each alone, leave these facts over those of the world.
func allLeave(t *testing.T, decl string, wants map[string]string) {
	t.Helper()
	for text, want := range wants {
		leaves(t, world+decl+" "+text, some, want)
	}
}

// P17.2: what stands in LAtoms.
func TestAtoms(t *testing.T) {
	allLeave(t, ".decl p(x: number, y: number)", map[string]string{
		"p(x, y) :- e(y, x).":                            "p(1, 1). p(2, 1). p(2, 3). p(3, 2). p(4, 2)",
		"p(x, x) :- e(x, x).":                            "p(1, 1)",
		"p(x, z) :- e(x, y), e(y, z).":                   "p(1, 1). p(1, 2). p(1, 3). p(1, 4). p(2, 2). p(3, 3). p(3, 4)",
		"p(x, y) :- e(x, y), e(y, x).":                   "p(1, 1). p(2, 3). p(3, 2)",
		"p(x, y) :- n(x), a(y).":                         "p(1, 2). p(1, 5). p(3, 2). p(3, 5)",
		"p(x, y) :- n(x), a(x), a(y).":                   "",
		"p(x, y) :- e(x, y), a(y).":                      "p(1, 2). p(3, 2)",
		"p(1, x) :- e(2, x).":                            "p(1, 3). p(1, 4)",
		"p(x, 0) :- e(x, 2).":                            "p(1, 0). p(3, 0)",
		"p(0, 0) :- e(2, 4).":                            "p(0, 0)",
		"p(0, 0) :- e(4, 2).":                            "",
		`p(x, x) :- s("b", x).`:                          "p(2, 2)",
		`p(x, x) :- s("", x), s("a", _).`:                "p(2, 2)",
		`p(x, x) :- s("c", x).`:                          "",
		"p(x, x) :- e(x, x + 1).":                        "p(1, 1). p(2, 2)",
		"p(x, y) :- n(y), e(y - 1, x).":                  "p(3, 3). p(4, 3)",
		"p(x, y) :- e(x, y), e(y, x * 2 - y + 1).":       "p(1, 1). p(2, 3)",
		"p(x, 2) :- e(x, _).":                            "p(1, 2). p(2, 2). p(3, 2)",
		"p(0, 0) :- e(_, _).":                            "p(0, 0)",
		"p(x, y) :- e(x, _), e(_, y), x > 2, y > 2.":     "p(3, 3). p(3, 4)",
		"p(0, 0) :- t($Leaf()).":                         "p(0, 0)",
		"p(x, 0) :- t($Node(x, $Leaf())).":               "p(1, 0)",
		"p(x, y) :- t($Node(x, $Node(y, _))).":           "p(2, 1). p(2, 2). p(3, 4)",
		"p(x, x) :- t($Node(x, $Node(x, _))).":           "p(2, 2)",
		"p(x, y) :- t($Node(x, l)), t(l), n(y).":         "p(1, 1). p(1, 3). p(2, 1). p(2, 3)",
		"p(x, 0) :- t($Node(x, l)), t($Node(_, l)).":     "p(1, 0). p(2, 0). p(3, 0)",
		"p(x, y) :- n(x), t($Node(x, _)), e(y, x).":      "p(1, 1). p(3, 2)",
		"p(x, y) :- n(x), t($Node(y, $Node(x + 1, _))).": "p(1, 2). p(3, 3)",
		"p(0, x) :- t($Node(x, $Node(4, $Leaf()))).":     "p(0, 3)",
		"p(x, 1) :- on(), n(x), on().":                   "p(1, 1). p(3, 1)",
		"p(x, y) :- n(x), n(x), n(y), n(x).":             "p(1, 1). p(1, 3). p(3, 1). p(3, 3)",
	})
	for _, rule := range []string{"p(l) :- t($Node(_, l)).", "p(l) :- t($Node(x, l)), t($Node(x, l))."} {
		leaves(t, world+".decl p(x: T) "+rule, some, "p($Leaf()). p($Node(1, $Leaf())). p($Node(2, $Leaf())). p($Node(4, $Leaf()))")
	}
}

// P17.2: LNots of what was given, and of an earlier stratum.
func TestNots(t *testing.T) {
	allLeave(t, ".decl p(x: number)", map[string]string{
		"p(x) :- n(x), !a(x).":                               "p(1). p(3)",
		"p(x) :- a(x), !e(1, x).":                            "p(5)",
		"p(x) :- e(x, y), !e(y, x).":                         "p(1). p(2)",
		"p(x) :- e(_, x), !e(x, x), !n(x).":                  "p(2). p(4)",
		`p(x) :- s(y, x), !s("b", x), !s(y, x + 1).`:         "p(1)",
		`p(x) :- s(y, x), !s("a", x).`:                       "p(2)",
		"p(x) :- n(x), !on().":                               "",
		"p(x) :- n(x), !t($Node(x, $Leaf())).":               "p(3)",
		"p(x) :- n(x), !t($Node(x, $Node(x + 1, $Leaf()))).": "p(1)",
		"p(x) :- t($Node(x, l)), !t(l).":                     "p(2). p(3)",
		"p(7) :- !n(7), !e(7, 7).":                           "p(7)",
		"p(7) :- !n(3).":                                     "",
		".decl q(x: number) q(x) :- n(x). q(x) :- a(x), x < 3. p(x) :- e(x, _), !q(x).":         "q(1). q(2). q(3)",
		".decl q(x: number) q(x) :- n(x), x > 1. p(x) :- e(x, _), !q(x).":                       "p(1). p(2). q(3)",
		".decl z() .decl o() z() :- !on(). o() :- !z(). p(1) :- !z(), !o(). p(2) :- !z(), o().": "p(2). o()",
	})
}

// P17.2: LCmps that give a variable its value, and ones that do not, on either side.
func TestComparisons(t *testing.T) {
	allLeave(t, ".decl p(x: number, y: number)", map[string]string{
		"p(x, y) :- n(x), y = x + 1.":                                 "p(1, 2). p(3, 4)",
		"p(x, y) :- n(x), x - 1 = y.":                                 "p(1, 0). p(3, 2)",
		"p(x, y) :- n(x), y = x.":                                     "p(1, 1). p(3, 3)",
		"p(x, y) :- n(x), x = y, e(y, _).":                            "p(1, 1). p(3, 3)",
		"p(x, y) :- x = 1, y = x + x.":                                "p(1, 2)",
		"p(x, y) :- 2 = x, x * 3 = y, y = 6, 6 = y.":                  "p(2, 6)",
		"p(x, y) :- x = 1, y = 2, x = y.":                             "",
		"p(x, y) :- e(x, y), x = y.":                                  "p(1, 1)",
		"p(x, y) :- e(x, y), y = 2.":                                  "p(1, 2). p(3, 2)",
		"p(x, y) :- e(x, y), 2 = y.":                                  "p(1, 2). p(3, 2)",
		"p(x, y) :- e(x, y), x + 1 = y.":                              "p(1, 2). p(2, 3)",
		"p(x, y) :- e(x, y), y = x + 1.":                              "p(1, 2). p(2, 3)",
		"p(x, y) :- e(x, y), x * y = y + y.":                          "p(2, 3). p(2, 4)",
		"p(x, y) :- e(x, y), x != y.":                                 "p(1, 2). p(2, 3). p(2, 4). p(3, 2)",
		"p(x, y) :- e(x, y), x < y.":                                  "p(1, 2). p(2, 3). p(2, 4)",
		"p(x, y) :- e(x, y), x <= y.":                                 "p(1, 1). p(1, 2). p(2, 3). p(2, 4)",
		"p(x, y) :- e(x, y), x > y.":                                  "p(3, 2)",
		"p(x, y) :- e(x, y), x >= y.":                                 "p(1, 1). p(3, 2)",
		"p(x, y) :- e(x, y), 2 < y, x < 2 + 1.":                       "p(2, 3). p(2, 4)",
		`p(x, y) :- s(w, x), w = "b", s(v, y), v != w.`:               "p(2, 1). p(2, 2)",
		`p(x, y) :- w = "a", s(w, x), v = w, s(v, y).`:                "p(1, 1)",
		`p(x, x) :- s(w, x), "" = w.`:                                 "p(2, 2)",
		"p(x, 0) :- l = $Leaf(), t($Node(x, l)).":                     "p(1, 0)",
		"p(x, 0) :- n(x), t(l), l = $Node(x, $Leaf()).":               "p(1, 0)",
		"p(x, 0) :- n(x), t(l), $Node(x, $Leaf()) != l, x > 2.":       "p(3, 0)",
		"p(x, y) :- n(x), m = $Leaf(), l = $Node(x, m), t(l), y = x.": "p(1, 1)",
		"p(x, y) :- on(), x = 4, on(), y = 5.":                        "p(4, 5)",
	})
}

// P17.2: heads; facts of the program itself.
func TestHeads(t *testing.T) {
	allLeave(t, "", map[string]string{
		".decl p(x: number, y: number) p(x + 1, 7) :- n(x).":                                "p(2, 7). p(4, 7)",
		".decl p(x: number, y: number) p(x - y, x * y) :- n(x), a(y).":                      "p(-4, 5). p(-2, 15). p(-1, 2). p(1, 6)",
		".decl p(x: T) p($Node(x, $Node(x + 1, $Leaf()))) :- n(x).":                         "p($Node(1, $Node(2, $Leaf()))). p($Node(3, $Node(4, $Leaf())))",
		".decl p(x: T) p($Node(y, l)) :- t($Node(x, l)), y = x % 2, x > 1.":                 "p($Node(0, $Node(1, $Leaf()))). p($Node(0, $Node(2, $Leaf()))). p($Node(1, $Node(4, $Leaf())))",
		`.decl p(x: symbol, y: T) p("w", $Leaf()) :- on().`:                                 `p("w", $Leaf())`,
		".decl p() p() :- n(3).":                                                            "p()",
		".decl p() p() :- n(4).":                                                            "",
		".decl p() p() :- on(), on().":                                                      "p()",
		`.decl p(x: symbol, y: number) p("a", 1). p("", 1 + 2). p("a", 1). p("a", -3 * 3).`: `p("", 3). p("a", -9). p("a", 1)`,
		".decl p(x: T) p($Leaf()). p($Node(5, $Leaf())). p($Node(5, $Leaf())).":             "p($Leaf()). p($Node(5, $Leaf()))",
		".decl p() p().":               "p()",
		"n(8). n(3). n(2) :- on().":    "n(1). n(2). n(3). n(8)",
		"e(y, x) :- e(x, y).":          "e(1, 1). e(1, 2). e(2, 1). e(2, 3). e(2, 4). e(3, 2). e(4, 2)",
		"on() :- n(77). on() :- on().": "on()",
	})
}

// P17.2: a stratum of one relation that hangs on itself, by clauses with one and with more LAtoms of it, beside others that are not recursive.
func TestOneThatHangsOnItself(t *testing.T) {
	const given = "e(1, 2). e(2, 3). e(3, 4). e(4, 2). e(7, 8)."
	const all = "p(1, 2). p(1, 3). p(1, 4). p(2, 2). p(2, 3). p(2, 4). p(3, 2). p(3, 3). p(3, 4). p(4, 2). p(4, 3). p(4, 4). p(7, 8)"
	for _, text := range []string{
		"p(x, y) :- e(x, y). p(x, z) :- e(x, y), p(y, z).",
		"p(x, z) :- p(x, y), e(y, z). p(x, y) :- e(x, y).",
		"p(x, y) :- e(x, y). p(x, z) :- p(x, y), p(y, z).",
		"p(x, z) :- p(y, z), p(x, y). p(x, y) :- e(x, y).",
		"p(x, y) :- e(x, y). p(x, w) :- p(x, y), p(y, z), p(z, w). p(x, z) :- e(x, y), e(y, z).",
		"p(x, y) :- e(x, y). p(x, z) :- e(x, y), p(y, z). p(x, z) :- p(x, y), e(y, z). p(x, y) :- p(x, y).",
		"p(x, y) :- e(x, y). p(x, z) :- p(x, w), w = y, p(y, z), x != 99.",
	} {
		leaves(t, world+".decl p(x: number, y: number) "+text, given, all)
	}
	for text, want := range map[string]string{
		"p(x) :- n(x). p(y) :- p(x), p(y), x != y.":                                    "p(1). p(3)",
		"p(5). p(y) :- p(x), e(x, y). p(2).":                                           "p(2). p(3). p(4). p(5)",
		"p(x) :- p(x).":                                                                "",
		"p(4). p(y) :- e(x, y), !n(x), p(x).":                                          "p(2). p(3). p(4)",
		"p(1). p(z) :- p(x), e(x, y), e(y, z).":                                        "p(1). p(2). p(3). p(4)",
		"p(4). p(x) :- e(x, y), p(y), !e(y, 3).":                                       "p(2). p(3). p(4)",
		"p(x) :- n(x). p(7) :- p(1), p(3). p(8) :- p(7), p(9). p(9) :- p(7), e(7, 8).": "p(1). p(3). p(7). p(8). p(9)",
		"p(x) :- p(y), e(y, x). p(x) :- a(x). p(6) :- p(3), p(4), !p2(2). .decl p2(x: number) p2(x) :- n(x).": "p(2). p(3). p(4). p(6). p2(1). p2(3)",
	} {
		leaves(t, world+".decl p(x: number) "+text, given+" n(1). n(3). a(3).", want)
	}
}

// P17.2: strata of several relations that hang on each other.
func TestSeveralThatHangOnEachOther(t *testing.T) {
	const two = ".decl p(x: number, y: number) .decl q(x: number) "
	const given = "e(1, 2). e(2, 3). e(3, 4). e(4, 5). e(6, 6). n(1). n(6). on()."
	for text, want := range map[string]string{
		"q(x) :- n(x). p(x, y) :- q(x), e(x, y). q(y) :- p(_, y).":                                                                               "p(1, 2). p(2, 3). p(3, 4). p(4, 5). p(6, 6). q(1). q(2). q(3). q(4). q(5). q(6)",
		"p(x, y) :- e(x, y), q(x). q(y) :- p(x, y), y - x < 2. q(2).":                                                                            "p(2, 3). p(3, 4). p(4, 5). q(2). q(3). q(4). q(5)",
		"p(x, y) :- e(x, y), !q2(x). q(x) :- p(x, _). .decl q2(x: number) q2(x) :- n(x). q(y) :- q(x), p(x, y). p(y, x) :- q(x), q(y), p(x, y).": "p(2, 3). p(3, 2). p(3, 4). p(4, 3). p(4, 5). p(5, 4). q(2). q(3). q(4). q(5). q2(1). q2(6)",
		"p(x, y) :- p(y, x). q(x) :- q(x), p(x, x). p(x, x) :- q(x). q(x) :- n(x).":                                                              "p(1, 1). p(6, 6). q(1). q(6)",
		"p(x, y) :- q(x), q(y), e(x, y). q(y) :- p(x, y). q(x) :- p(x, _). q(2). q(3).":                                                          "p(2, 3). q(2). q(3)",
	} {
		leaves(t, world+two+text, given, want)
	}
	leaves(t, world+".decl even(x: number) .decl odd(x: number) .decl zero() .decl none() even(0). odd(y) :- even(x), e(x, y). even(y) :- odd(x), e(x, y). zero() :- even(0), !odd(0). none() :- !zero().",
		"e(0, 1). e(1, 2). e(2, 3). e(3, 4). e(4, 5).", "even(0). even(2). even(4). odd(1). odd(3). odd(5). zero()")
	leaves(t, world+".decl a1(x: number) .decl a2(x: number) .decl a3(x: number) a1(x) :- a2(x). a2(x) :- a3(x). a3(x) :- a1(x). a3(y) :- a1(x), a2(x), a3(x), e(x, y). a2(x) :- n(x).",
		"n(1). e(1, 2). e(2, 3). e(4, 5).", "a1(1). a1(2). a1(3). a2(1). a2(2). a2(3). a3(1). a3(2). a3(3)")
}

// P17.2: relations of no columns that hang on each other.
func TestNoColumns(t *testing.T) {
	const decls = ".decl a() input .decl b() .decl c() .decl d() "
	for text, want := range map[string]string{
		"b() :- a(). c() :- b(), d(). d() :- c().":             "b()",
		"b() :- a(). c() :- b(). c() :- d(). d() :- c().":      "b(). c(). d()",
		"b() :- b(). c() :- !b(), a(). d() :- !c().":           "c()",
		"b() :- c(), a(). c() :- b(). c(). d() :- d(), d().":   "b(). c()",
		"a() :- b(). b() :- a(). c() :- c(). c() :- a(), b().": "a(). b(). c()",
	} {
		leaves(t, decls+text, "a().", want)
	}
	leaves(t, decls+"b() :- a(). c() :- !b(). d() :- !a(), c().", "", "c(). d()")
}

// P17.2: an input that has clauses, too, has what is given and what follows; also where it hangs on itself.
func TestGivenAndDerived(t *testing.T) {
	leaves(t, world+"e(x, z) :- e(x, y), e(y, z).", "e(1, 2). e(2, 3). e(3, 4).", "e(1, 2). e(1, 3). e(1, 4). e(2, 3). e(2, 4). e(3, 4)")
	leaves(t, world+"n(x) :- e(_, x), x < 4. e(y, x) :- n(x), e(y, _).", "n(1). e(5, 2). e(1, 7).", "e(1, 1). e(1, 2). e(1, 7). e(5, 1). e(5, 2). n(1). n(2)")
}

// P17.2: strata behind one another, whose Decls stand in any order.
func TestStrata(t *testing.T) {
	const text = ".decl d(x: number) .decl c(x: number) .decl u(x: number) .decl e(x: number, y: number) input .decl r(x: number) .decl f(x: number) input " +
		"d(x) :- u(x), !c(x). c(x) :- e(x, _), !r(x). c(y) :- c(x), e(y, x), !f(y). r(x) :- f(x). r(y) :- r(x), e(x, y). u(x) :- e(x, _). u(y) :- e(_, y)."
	leaves(t, text, "e(1, 2). e(2, 3). e(4, 5). e(5, 6). e(6, 4). e(7, 1). f(1).", "d(1). d(2). d(3). c(4). c(5). c(6). c(7). u(1). u(2). u(3). u(4). u(5). u(6). u(7). r(1). r(2). r(3)")
}

// P17.2: rings that take many rounds.
func TestManyRounds(t *testing.T) {
	var given, want []string
	for i := range 150 {
		given = append(given, "e("+strconv.Itoa(i)+", "+strconv.Itoa((i+1)%150)+").")
		want = append(want, "p("+strconv.Itoa(i)+")")
	}
	leaves(t, world+".decl p(x: number) p(y) :- p(x), e(x, y). p(77).", strings.Join(given, " "), strings.Join(want, ". "))
	given, want = nil, nil
	for i := range 24 {
		given = append(given, "e("+strconv.Itoa(i)+", "+strconv.Itoa((i+1)%24)+").")
		for k := range 24 {
			want = append(want, "p("+strconv.Itoa(i)+", "+strconv.Itoa(k)+")")
		}
	}
	leaves(t, paths, strings.Join(given, " "), strings.Join(want, ". "))
	leaves(t, paths, strings.Join(given[:23], " "), func() string {
		var less []string
		for i := range 24 {
			for k := i + 1; k < 24; k++ {
				less = append(less, "p("+strconv.Itoa(i)+", "+strconv.Itoa(k)+")")
			}
		}
		return strings.Join(less, ". ")
	}())
}
