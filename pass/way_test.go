package pass

import (
	"strings"
	"testing"

	"vestry/api"
	"vestry/rules"
	"vestry/syn"
)

// P14.2: an alias is done away with: its Clause and its Decl go, and in its atoms stands the other relation.
func TestAlias(t *testing.T) {
	for _, c := range []struct{ gone, text, want string }{
		{"a", "a(x) :- e(x). p(x) :- a(x).", "p(x) :- e(x)."},
		{"a", "p(x) :- a(x). a(x) :- e(x).", "p(x) :- e(x)."},
		{"a", "a(x) :- e(x). p(x) :- a(x), a(3), f(x, y), a(y + 1), a(_).", "p(x) :- e(x), e(3), f(x, y), e(y + 1), e(_)."},
		{"a", "a(x) :- e(x). p(x) :- f(x, _), !a(x), !a(x + 1).", "p(x) :- f(x, _), !e(x), !e(x + 1)."},
		{"c", "c(x, y) :- f(x, y). p(x) :- c(x, x). q(x, y) :- c(y, x), x < y.", "p(x) :- f(x, x). q(x, y) :- f(y, x), x < y."},
		{"z", ".decl n() n(). n() :- n(). z() :- n(). p(1) :- z(), !z().", ".decl n() n(). n() :- n(). p(1) :- n(), !n()."},
		{"t", ".decl u(x: T) input t(x) :- u(x). p(y) :- t($Node(y, $Leaf())), !t($Leaf()).", ".decl u(x: T) input p(y) :- u($Node(y, $Leaf())), !u($Leaf())."},
		{"a", "a(x) :- e(x).", ""},
		{"a", "a(x) :- p(x). b(x) :- a(x), e(x). p(1).", "b(x) :- p(x), e(x). p(1)."},
		{"a", "a(x) :- b(x). b(x) :- b(x), e(x). p(x) :- a(x), b(x).", "b(x) :- b(x), e(x). p(x) :- b(x), b(x)."},
		{"a", "a(e) :- e(e). p(a) :- a(a).", "p(a) :- e(a)."},
	} {
		becomes(t, Alias, world+c.text, without(c.gone)+c.want)
	}
}

// P14.2: of several aliases the first goes, in the order of the Decls; of an alias of an alias, too.
func TestAliasFirst(t *testing.T) {
	becomes(t, Alias, world+"b(x) :- e(x). a(x) :- e(x). p(x) :- b(x), a(x).", without("a")+"b(x) :- e(x). p(x) :- b(x), e(x).")
	becomes(t, Alias, world+"b(x) :- a(x). a(x) :- e(x). p(x) :- b(x), a(x).", without("a")+"b(x) :- e(x). p(x) :- b(x), e(x).")
	becomes(t, Alias, world+"a(x) :- b(x). b(x) :- e(x). p(x) :- a(x), b(x).", without("a")+"b(x) :- e(x). p(x) :- b(x), b(x).")
	becomes(t, Alias, without("a")+"b(x) :- e(x). p(x) :- b(x), b(x).", without("a b")+"p(x) :- e(x), e(x).")
}

// P14.2: what is no alias: what may not give way, and what has another Clause than an alias.
func TestNoAlias(t *testing.T) {
	for _, text := range []string{
		"", "p(x) :- e(x).", "p(x) :- a(x).", "e(x) :- f(x, x). p(x) :- e(x).",
		"a(x) :- e(x). a(1). p(x) :- a(x).",
		"a(x) :- e(x). a(x) :- e(x). p(x) :- a(x).",
		"a(x) :- a(x). p(x) :- a(x).", "a(x) :- b(x). b(x) :- a(x). p(x) :- a(x).",
		"a(x) :- b(x). b(x) :- c(x, _). c(x, x) :- a(x), e(x).",
		"c(x, y) :- f(y, x). p(x) :- c(x, x).", "c(x, x) :- f(x, x). p(x) :- c(x, x).",
		"c(x, y) :- f(x, y), x < y. p(x) :- c(x, x).", "c(x, y) :- f(x, _), e(y). p(x) :- c(x, x).",
		"a(x) :- f(x, x). p(x) :- a(x).", "a(x) :- f(x, _). p(x) :- a(x).", "a(x) :- f(x, 1). p(x) :- a(x).", "a(x) :- f(1, x). p(x) :- a(x).",
		"a(1) :- e(1). p(x) :- a(x).", "a(1). p(x) :- a(x).", "a(x + 1) :- e(x). p(x) :- a(x).", "a(x) :- x = 1, e(x + 0). p(x) :- a(x).",
		"a(x) :- x = 1. p(x) :- a(x).", "z(). p(1) :- z().", "z() :- !e(1). p(1) :- z().", "z() :- e(1). p(1) :- z().",
		"a(x) :- e(x), 1 < 2. p(x) :- a(x).",
	} {
		stays(t, Alias, world+text)
	}
}

// subtypes: relations of types below one another.
const subtypes = `
.type A <: number .type B <: number
.decl e(x: A) input .decl g(x: B) input .decl h(x: number) input
`

// P14.2: an alias with which Check would not take what comes stays, and one behind it goes.
func TestAliasNotTaken(t *testing.T) {
	stays(t, Alias, subtypes+".decl a(x: number) .decl p(x: number) output a(x) :- e(x). p(x) :- a(x), g(x).")
	becomes(t, Alias,
		subtypes+".decl a(x: number) .decl p(x: number) output a(x) :- e(x). p(x) :- a(x), h(x).",
		subtypes+".decl p(x: number) output p(x) :- e(x), h(x).")
	becomes(t, Alias,
		subtypes+".decl a(x: number) .decl b(x: number) .decl p(x: number) output a(x) :- e(x). b(x) :- e(x). p(x) :- a(x), g(x). p(x) :- b(x).",
		subtypes+".decl a(x: number) .decl p(x: number) output a(x) :- e(x). p(x) :- a(x), g(x). p(x) :- e(x).")
	becomes(t, Alias,
		subtypes+".decl a(x: number) .decl p(x: number) output a(x) :- e(x). p(x) :- g(x), !a(x).",
		subtypes+".decl p(x: number) output p(x) :- g(x), !e(x).")
	stays(t, Alias, subtypes+".decl a(x: number) .decl p(x: number) output a(x) :- e(x). p(x) :- e(x). p(x) :- a(x), a(x), g(x). p(x) :- a(x).")
	// The head's column needs what the alias's column has, or what its own has, which narrows it.
	becomes(t, Alias,
		subtypes+".decl a(x: number) .decl p(x: A) output a(x) :- e(x). p(x) :- a(x), e(x).",
		subtypes+".decl p(x: A) output p(x) :- e(x), e(x).")
}

// P14.2: an alias may stay because another one went.
func TestAliasThenNone(t *testing.T) {
	later := ".decl b(x: number) .decl k(x: B) .decl p(x: number) output b(x) :- k(x). k(1). k(2). "
	becomes(t, Alias, subtypes+".decl a(x: number) "+later+"a(x) :- e(x). p(x) :- a(x), b(x).", subtypes+later+"p(x) :- e(x), b(x).")
	stays(t, Alias, subtypes+later+"p(x) :- e(x), b(x).")
}

// P14.3: a relation is inlined: its Clause and its Decl go, and in the place of its atoms stands its Body.
func TestInline(t *testing.T) {
	for _, c := range []struct{ gone, text, want string }{
		{"a", "a(x) :- e(x), x < 3. p(x) :- a(x).", "p(x) :- e(x), x < 3."},
		{"a", "p(y) :- a(y). a(x) :- e(x), x < 3.", "p(y) :- e(y), y < 3."},
		{"a", "a(x) :- e(x). p(y) :- f(y, _), a(y), y < 9.", "p(y) :- f(y, _), e(y), y < 9."},
		{"a", "a(x) :- f(x, y), y < x. p(x) :- a(x).", "p(x) :- f(x, v1), v1 < x."},
		{"a", "a(x) :- f(x, y), y < x. p(y) :- a(y).", "p(y) :- f(y, v1), v1 < y."},
		{"c", "c(x, y) :- f(y, x). p(x) :- c(x, x). q(y, x) :- c(x, y).", "p(x) :- f(x, x). q(y, x) :- f(y, x)."},
		{"c", "c(x, y) :- f(x, y), x < y. q(y, x) :- c(x, z), c(z, y), c(x, x).", "q(y, x) :- f(x, z), x < z, f(z, y), z < y, f(x, x), x < x."},
		{"z", "z(). p(x) :- z(), e(x), z().", "p(x) :- e(x)."},
		{"z", "z(). p(1) :- z().", "p(1)."},
		{"z", "z() :- e(1), !e(2). p(x) :- e(x), z().", "p(x) :- e(x), e(1), !e(2)."},
		{"z", "z() :- e(x), !e(x + 1). p(x) :- e(x), z().", "p(x) :- e(x), e(v1), !e(v1 + 1)."},
		{"a", "a(x) :- x = 1 + 2. p(x) :- a(x). p(y) :- e(y), a(y).", "p(x) :- x = 1 + 2. p(y) :- e(y), y = 1 + 2."},
		{"a", "a(x) :- f(x, _), f(_, x). p(x) :- a(x).", "p(x) :- f(x, _), f(_, x)."},
		{"a", "a(x) :- t($Node(x, $Node(y, z))), z != $Leaf(), y = x * 2. p(x) :- a(x).", "p(x) :- t($Node(x, $Node(v1, v2))), v2 != $Leaf(), v1 = x * 2."},
		{"a", "a(x) :- e(x), 1 < 2.", ""},
		{"a", "a(x) :- p(x), x < 4. p(1). b(x) :- a(x). b(1).", "p(1). b(x) :- p(x), x < 4. b(1)."},
	} {
		becomes(t, Inline, world+c.text, without(c.gone)+c.want)
	}
}

// P14.3: a `_` in the place of a head's variable is a new variable there.
func TestInlineAny(t *testing.T) {
	for _, c := range []struct{ gone, text, want string }{
		{"a", "a(x) :- e(x), x < 3. p(1) :- a(_).", "p(1) :- e(v1), v1 < 3."},
		{"a", "a(x) :- f(x, y), y < x. p(1) :- a(_), a(_).", "p(1) :- f(v1, v2), v2 < v1, f(v3, v4), v4 < v3."},
		{"c", "c(x, y) :- f(z, y), f(x, w), e(z), z < w. p(1) :- c(_, _).", "p(1) :- f(v3, v2), f(v1, v4), e(v3), v3 < v4."},
		{"c", "c(x, y) :- f(y, x). p(y) :- c(_, y).", "p(y) :- f(y, v1)."},
		{"c", "c(x, y) :- f(y, z), f(z, x). p(y) :- c(y, _).", "p(y) :- f(v1, v2), f(v2, y)."},
	} {
		becomes(t, Inline, world+c.text, without(c.gone)+c.want)
	}
}

// P14.3: new variables are given out Clause by Clause and atom by atom, without words that the program has anywhere as variables.
func TestInlineWords(t *testing.T) {
	for _, c := range []struct{ gone, text, want string }{
		{
			"a", "a(x) :- f(x, y), y < x. p(x) :- a(x). q(x, z) :- a(x), e(z), a(z). b(x) :- a(x). b(2).",
			"p(x) :- f(x, v1), v1 < x. q(x, z) :- f(x, v2), v2 < x, e(z), f(z, v3), v3 < z. b(x) :- f(x, v4), v4 < x. b(2).",
		},
		{"a", "p(v1) :- a(v1). a(x) :- f(x, y), y < x.", "p(v1) :- f(v1, v2), v2 < v1."},
		{"a", "p(x) :- a(x). a(x) :- f(x, y), y < x. q(v1, v3) :- f(v1, v3).", "p(x) :- f(x, v2), v2 < x. q(v1, v3) :- f(v1, v3)."},
		{"a", "p(x) :- a(x). a(x) :- f(x, v1), v1 < x.", "p(x) :- f(x, v2), v2 < x."},
		{"a", "p(x) :- a(x). a(v2) :- f(v2, y), f(y, z), y < z.", "p(x) :- f(x, v1), f(v1, v3), v1 < v3."},
		{"a", "p(x) :- a(x). a(x) :- f(x, y), y < x. q(x, y) :- f(x, y), t($Node(v1, _)), v2 = y, y < v2 + v1.", "p(x) :- f(x, v3), v3 < x. q(x, y) :- f(x, y), t($Node(v1, _)), v2 = y, y < v2 + v1."},
		{"a", "p(x) :- a(x). a(x) :- f(x, y), y < x. p(x) :- e(x), x = v2, y = v2 + v2, v1 = y.", "p(x) :- f(x, v3), v3 < x. p(x) :- e(x), x = v2, y = v2 + v2, v1 = y."},
		{"a", "p(x) :- a(x). a(x) :- f(x, y), f(y, z), y < z. q(v01, V1) :- f(v01, V1), f(v, v1x), f(v_1, v2).", "p(x) :- f(x, v1), f(v1, v3), v1 < v3. q(v01, V1) :- f(v01, V1), f(v, v1x), f(v_1, v2)."},
		{"a", "p(x) :- a(x). a(x) :- f(x, y), y < x. p(1) :- s(\"v1\").", "p(x) :- f(x, v1), v1 < x. p(1) :- s(\"v1\")."},
		{"a", ".decl v1(v1: number) input p(x) :- a(x). a(x) :- f(x, y), v1(y).", ".decl v1(v1: number) input p(x) :- f(x, v1), v1(v1)."},
		{
			"a", "p(x) :- a(x). a(x) :- e(m), n = m, t($Node(n + m, $Node(x, l))), o = l, k = n, !f(m, k), k * (n - m) < x.",
			"p(x) :- e(v1), v2 = v1, t($Node(v2 + v1, $Node(x, v3))), v4 = v3, v5 = v2, !f(v1, v5), v5 * (v2 - v1) < x.",
		},
	} {
		becomes(t, Inline, world+c.text, without(c.gone)+c.want)
	}
	many := "p(x) :- a(x). a(x) :- f(x, y), f(y, z), y < z. "
	for _, n := range strings.Fields("1 2 3 4 5 6 7 8 9 10 12") {
		many += "p(v" + n + ") :- e(v" + n + "). "
	}
	becomes(t, Inline, world+many, without("a")+strings.Replace(many, "p(x) :- a(x). a(x) :- f(x, y), f(y, z), y < z. ", "p(x) :- f(x, v11), f(v11, v13), v11 < v13. ", 1))
}

// P14.3: of several relations the first is inlined, in the order of the Decls.
func TestInlineFirst(t *testing.T) {
	becomes(t, Inline, world+"b(x) :- e(x), x < 1. a(x) :- b(x), x < 2. p(x) :- b(x), a(x).", without("a")+"b(x) :- e(x), x < 1. p(x) :- b(x), b(x), x < 2.")
	becomes(t, Inline, world+"b(x) :- a(x), x < 1. a(x) :- e(x), x < 2. p(x) :- b(x), a(x).", without("a")+"b(x) :- e(x), x < 2, x < 1. p(x) :- b(x), e(x), x < 2.")
	becomes(t, Inline, without("a")+"b(x) :- e(x), x < 2, x < 1. p(x) :- b(x), e(x), x < 2.", without("a b")+"p(x) :- e(x), x < 2, x < 1, e(x), x < 2.")
	becomes(t, Inline, world+"b(x) :- e(x), x < 1. a(x) :- e(x), x < 2. p(x) :- b(x), a(3).", without("b")+"a(x) :- e(x), x < 2. p(x) :- e(x), x < 1, a(3).")
}

// P14.3: what can't be inlined: what may not give way, stands in an LNot, or with another Arg than a variable or `_`.
func TestNoInline(t *testing.T) {
	for _, text := range []string{
		"", "p(x) :- e(x).", "p(x) :- a(x).", "e(x) :- f(x, x). p(x) :- e(x).", "p(x) :- e(x), x < 3. q(x, x) :- p(x).",
		"a(x) :- e(x), x < 3. a(1). p(x) :- a(x).",
		"a(x) :- a(x), x < 3. p(x) :- a(x).", "a(x) :- b(x). b(x) :- a(x). p(x) :- a(x).",
		"c(x, x) :- e(x). p(x) :- c(x, _).", "c(x, 1) :- e(x). p(x) :- c(x, _).", "a(1). p(x) :- a(x).", "a(x + 1) :- e(x). p(x) :- a(x).",
		"t($Leaf()). p(1) :- t(_).", ".decl y(x: symbol) y(\"a\"). p(1) :- y(x).",
		"a(x) :- e(x), x < 3. p(x) :- e(x), !a(x).", "a(x) :- e(x), x < 3. p(x) :- a(x). p(x) :- e(x), a(x), !a(x).",
		"a(x) :- e(x), x < 3. p(x) :- e(x), a(3).", "a(x) :- e(x), x < 3. p(x) :- a(x). p(x) :- e(x), a(x), a(x + 1).",
		"c(x, y) :- f(x, y), x < y. p(x) :- c(x, 3).", ".decl y(x: symbol) y(x) :- s(x). p(1) :- y(x), y(\"a\").",
		".decl u(x: T) u(x) :- t(x). t($Leaf()). t(x) :- t(x). p(1) :- u($Leaf()).",
		"z() :- e(1). p(1) :- !z().",
	} {
		stays(t, Inline, world+text)
	}
}

// P14.3: a relation with which Check would not take what comes stays: by a type that does not fit, or a value that would be made in a ring.
func TestInlineNotTaken(t *testing.T) {
	stays(t, Inline, subtypes+".decl a(x: number) .decl p(x: number) output a(x) :- e(x). p(x) :- a(x), g(x).")
	becomes(t, Inline,
		subtypes+".decl a(x: number) .decl b(x: number) .decl p(x: number) output a(x) :- e(x). b(x) :- e(x). p(x) :- a(x), g(x). p(x) :- b(x), h(x).",
		subtypes+".decl a(x: number) .decl p(x: number) output a(x) :- e(x). p(x) :- a(x), g(x). p(x) :- e(x), h(x).")
	stays(t, Inline, world+"a(y) :- e(x), y = x + 1. p(y) :- p(x), a(y).")
	stays(t, Inline, world+"a(y) :- e(x), y = x + 1. p(y) :- q(x, _), a(y). q(x, x) :- p(x).")
	becomes(t, Inline, world+"a(y) :- e(x), y = x + 1. p(y) :- q(x, _), a(y). p(1) :- p(1).", without("a")+"p(y) :- q(x, _), e(v1), y = v1 + 1. p(1) :- p(1).")
	becomes(t, Inline, world+"a(y) :- e(x), y = x + 1. p(y) :- p(y), a(y).", without("a")+"p(y) :- p(y), e(v1), y = v1 + 1.")
	stays(t, Inline, world+"t(y) :- y = $Leaf(). .decl u(x: T) u(y) :- u(x), t(y).")
	stays(t, Inline, world+"a(y) :- e(x), y = x + 1. p(y) :- p(x), a(y). p(y) :- a(y).")
	// A value that is made in the Body, but not in what the head has, turns nothing.
	becomes(t, Inline, world+"a(x) :- e(x), y = x + 1, e(y). p(x) :- p(x), a(x). p(x) :- a(x).", without("a")+"p(x) :- p(x), e(x), v1 = x + 1, e(v1). p(x) :- e(x), v2 = x + 1, e(v2).")
}

// P14.2, P14.3: types of all kinds, however far they are from the relations, turn nothing, where they fit.
func TestInlineTypes(t *testing.T) {
	far := ".type V <: number .type Y <: symbol .type W <: V .type U = L {} | K {t: W, u: U, y: Z} .type Z = M {y: Y} .type S <: U .decl e(x: S) input .decl n(x: number) input "
	for _, c := range []struct{ decl, text, want string }{
		{"a(x: W)", "a(x) :- e($K(x, _, _)), x < 3. p(x) :- a(x).", "p(x) :- e($K(x, _, _)), x < 3."},
		{"a(x: number)", "a(x) :- n(x), $K(1, $L(), $M(\"b\")) != $L(). p(x) :- a(x).", "p(x) :- n(x), $K(1, $L(), $M(\"b\")) != $L()."},
		{"a(x: Z)", "a(x) :- e($K(_, $L(), x)). p(1) :- a(x), x != $M(\"a\").", "p(1) :- e($K(_, $L(), x)), x != $M(\"a\")."},
		{"a(x: U)", "a(x) :- e($K(y, x, $M(z))), e(x), z != \"k\", y > 0. p(x) :- a($K(x, _, $M(_))), n(x).", ""},
		{"a(x: U)", "a(x) :- e(x), x != $L(). p(y) :- a(x), e($K(y, x, _)).", "p(y) :- e(x), x != $L(), e($K(y, x, _))."},
	} {
		if c.want == "" {
			stays(t, Inline, far+".decl "+c.decl+" .decl p(x: number) output "+c.text)
		} else {
			becomes(t, Inline, far+".decl "+c.decl+" .decl p(x: number) output "+c.text, far+".decl p(x: number) output "+c.want)
		}
	}
	becomes(t, Alias,
		far+".decl a(x: U) .decl p(x: number) output a(x) :- e(x). p(x) :- a($K(x, _, $M(y))), y != \"a\", !a($L()).",
		far+".decl p(x: number) output p(x) :- e($K(x, _, $M(y))), y != \"a\", !e($L()).")
}

// lits: so many Lits that hold, each behind a comma.
func lits(n int) string { return strings.Repeat(", x < 7", n) }

// P14.3: a Clause may get just 16 Lits, and no more.
func TestInlineLong(t *testing.T) {
	for _, c := range []struct {
		own, user int
		fits      bool
	}{{2, 15, true}, {2, 16, false}, {3, 14, true}, {3, 15, false}, {15, 2, true}, {16, 1, true}, {16, 2, false}, {1, 16, true}} {
		own, user := "a(x) :- e(x)"+lits(c.own-1)+".", "p(x) :- a(x)"+lits(c.user-1)+"."
		if c.fits {
			becomes(t, Inline, world+own+user, without("a")+"p(x) :- e(x)"+lits(c.own-1+c.user-1)+".")
		} else {
			stays(t, Inline, world+own+user)
		}
	}
	becomes(t, Inline, world+"a(x) :- e(x)"+lits(7)+". p(x) :- a(x), a(x).", without("a")+"p(x) :- e(x)"+lits(7)+", e(x)"+lits(7)+".")
	stays(t, Inline, world+"a(x) :- e(x)"+lits(7)+". p(x) :- a(x), a(x), e(x).")
	stays(t, Inline, world+"a(x) :- e(x)"+lits(8)+". p(x) :- a(x). p(x) :- a(x), a(x).")
	becomes(t, Inline, world+"a(x) :- e(x)"+lits(8)+". b(x) :- e(x)"+lits(3)+". p(x) :- b(x). p(x) :- a(x), a(x).", without("b")+"a(x) :- e(x)"+lits(8)+". p(x) :- e(x)"+lits(3)+". p(x) :- a(x), a(x).")
}

// P14.3: a Clause that has too many Lits already keeps all from being inlined, until it goes, or has fewer.
func TestInlineLongAlready(t *testing.T) {
	long := func(p *api.Prog, k int) {
		for len(p.Clauses[k].Body) < 17 {
			p.Clauses[k].Body = append(p.Clauses[k].Body, p.Clauses[k].Body[0])
		}
	}
	p := parsed(t, world+"a(x) :- e(x). p(x) :- a(x). q(x, x) :- e(x).")
	long(&p, 2)
	if q, turned := Inline(p); turned || !syn.Same(p, q) {
		t.Errorf("%s%v", shown(q), turned)
	}
	// It may be the Clause that goes, if its relation stands nowhere.
	p = parsed(t, world+"a(x) :- e(x). b(x) :- e(x). p(x) :- a(x).")
	long(&p, 1)
	q, turned := Inline(p)
	if want := parsed(t, without("b")+"a(x) :- e(x). p(x) :- a(x)."); !turned || !syn.Same(q, want) {
		t.Errorf("%s%v", shown(q), turned)
	}
	// Or one of its Lits may be what gives way to nothing.
	p = parsed(t, world+"a(x) :- e(x). z(). p(x) :- a(x). p(x) :- e(x), z().")
	long(&p, 3)
	q, turned = Inline(p)
	if !turned || len(q.Clauses) != 3 || len(q.Clauses[2].Body) != 16 || q.Clauses[0].Head.Rel != "a" || q.Clauses[1].Body[0].Atom.Rel != "a" {
		t.Errorf("%s%v", shown(q), turned)
	}
	if q, turned := Alias(p); !turned || len(q.Clauses[2].Body) != 17 {
		t.Errorf("an alias stays: %s", shown(q))
	}
}

// P14.2, P14.3: places stay: an atom keeps its own, Lits have theirs, and what stands for an Arg has that one's.
func TestPlaces(t *testing.T) {
	text := without("b") + "c(k, y) :- f(k, m), e(y), m < y. p(x) :- e(x), c(x, _)."
	p := parsed(t, text)
	q, _ := Inline(p)
	own, user, got := p.Clauses[0].Body, p.Clauses[1], q.Clauses[0]
	args := user.Body[1].Atom.Args
	for what, pair := range map[string][2]int{
		"the Clause":        {got.At, user.At},
		"the head":          {got.Head.At, user.Head.At},
		"a Lit that stays":  {got.Body[0].At, user.Body[0].At},
		"a Lit of the Body": {got.Body[1].At, own[0].At},
		"its atom":          {got.Body[1].Atom.At, own[0].Atom.At},
		"an Arg":            {got.Body[1].Atom.Args[0].At, args[0].At},
		"another variable":  {got.Body[1].Atom.Args[1].At, own[0].Atom.Args[1].At},
		"again":             {got.Body[3].L.At, own[2].L.At},
		"a new Arg":         {got.Body[2].Atom.Args[0].At, args[1].At},
		"and again":         {got.Body[3].R.At, args[1].At},
	} {
		if pair[0] != pair[1] || pair[1] == 0 {
			t.Errorf("%s: at %d, want %d", what, pair[0], pair[1])
		}
	}
	p = parsed(t, world+"a(x) :- e(x). p(y) :- a(y), !a(y).")
	q, _ = Alias(p)
	for i, l := range q.Clauses[0].Body {
		if was := p.Clauses[1].Body[i]; l.At != was.At || l.Atom.At != was.Atom.At || l.Atom.Args[0].At != was.Atom.Args[0].At {
			t.Errorf("an alias: %+v, want the places of %+v", l, was)
		}
	}
}

// P14.4: the example, and what turns only behind something else.
func TestBest(t *testing.T) {
	for _, c := range []struct{ text, want string }{
		{
			".decl e(x: number, y: number) input .decl a(x: number, y: number) .decl p(x: number) output a(x, y) :- e(x, y). p(x) :- a(x, z), x < 1 + 2.",
			".decl e(x: number, y: number) input .decl p(x: number) output p(x) :- e(x, z), x < 3.",
		},
		// Folding leaves one Clause, so that an alias is there.
		{world + "a(x) :- e(x), 1 < 2. a(x) :- f(x, x), 2 < 1. p(x) :- !a(3), a(x).", without("a b c z t") + "p(x) :- !e(3), e(x)."},
		// All aliases go, ahead of inlining, in which new variables are given out.
		{world + "a(x) :- b(x). b(x) :- e(x). p(x) :- a(x), b(x).", without("a b c z t") + "p(x) :- e(x), e(x)."},
		{world + "a(x) :- b(x), x < 4. b(x) :- c(x, y), y < x. c(x, y) :- f(x, z), f(z, y), z < 1 + 1. p(x) :- a(x).", without("a b c z t") + "p(x) :- f(x, v2), f(v2, v1), v2 < 2, v1 < x, x < 4."},
		// Trimming lets the LNot go that kept a relation from being inlined.
		{world + "a(x) :- e(x), x < 4. b(x) :- e(x), !a(x). b(1). p(x) :- a(x).", without("a b c z t") + "p(x) :- e(x), x < 4."},
		// Inlining leaves an alias, which stands in an LNot.
		{world + "z(). a(x) :- z(), e(x). p(x) :- f(x, _), !a(x).", without("a b c z t") + "p(x) :- f(x, _), !e(x)."},
		// Trimming lets something be inlined, which leaves an alias.
		{world + "z(). b(x) :- e(x), !z(). b(1). a(x) :- z(), e(x). p(x) :- f(x, _), !a(x).", without("a b c z t") + "p(x) :- f(x, _), !e(x)."},
		// A relation without Clauses stays, if an output hangs on it.
		{world + "a(x) :- e(x), 2 < 1. p(x) :- a(x).", without("b c z t") + "p(x) :- a(x)."},
		{world + "a(x) :- e(x). b(x) :- a(x).", without("a b c z t")},
		{world, without("a b c z t")},
		{".decl a() a() :- a().", ""},
	} {
		becomes(t, best, c.text, c.want)
		stays(t, best, c.want)
	}
	stays(t, best, "")
	stays(t, best, without("a b c z t")+"p(x) :- e(x), !f(x, x). q(x, y) :- f(x, y), q(y, x).")
}

// refused: programs that Check does not take, each with something that all calls could turn.
func refused(t *testing.T) map[string]api.Prog {
	t.Helper()
	simple := world + "a(x) :- e(x). b(x) :- e(x), x < 1 + 2. p(x) :- a(x), b(x), 1 < 2. z(). "
	progs := map[string]api.Prog{}
	for what, more := range map[string]string{
		"a component":        ".comp C { .decl r() r() :- r(), 1 < 2. }",
		"an instance":        ".init i = C",
		"both":               ".comp C : D, E { .decl r(x: number) input r(1 + 2). .init k = C } .init i = C",
		"an unknown type":    ".decl y(x: Y)",
		"a type twice":       ".type T <: number",
		"types in a ring":    ".type R <: S .type S <: R",
		"a relation twice":   ".decl a()",
		"an unknown one":     "p(x) :- none(x).",
		"another width":      "p(x) :- e(x, x).",
		"a wrong type":       "p(\"a\").",
		"a free variable":    "p(x).",
		"a `_` in a head":    "p(_) :- e(x).",
		"a not in a ring":    "b(x) :- e(x), !b(x).",
		"a made one in it":   "b(x + 1) :- b(x).",
		"a made constructor": "t($Node(1, x)) :- t(x).",
	} {
		progs[what] = parsed(t, simple+more)
	}
	kind := parsed(t, simple)
	kind.Clauses[2].Body[0].Kind = 7
	progs["a Lit of no kind"] = kind
	sign := parsed(t, simple)
	sign.Clauses[1].Body[1].R.S = "^"
	progs["an operator of no kind"] = sign
	kids := parsed(t, simple)
	kids.Clauses[1].Body[1].R.Kids = nil
	progs["an operator of nothing"] = kids
	return progs
}

// P14.1 to P14.4: a program that Check does not take is answered as it is, and false.
func TestRefused(t *testing.T) {
	for what, p := range refused(t) {
		if rules.Check(p).Why == api.OK {
			t.Errorf("%s: taken", what)
		}
		for i, do := range []call{Fold, Trim, Alias, Inline, best} {
			if q, turned := do(p); turned || !equal(p, q) {
				t.Errorf("%s, call %d: %s%v", what, i, shown(q), turned)
			}
		}
	}
	taken := parsed(t, world+"a(x) :- e(x). b(x) :- e(x), x < 1 + 2. p(x) :- a(x), b(x), 1 < 2. z().")
	for i, do := range []call{Fold, Trim, Alias, Inline, best} {
		if _, turned := do(taken); !turned {
			t.Errorf("call %d turns nothing of what is taken", i)
		}
	}
}
