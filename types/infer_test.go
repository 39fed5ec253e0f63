package types

import (
	"strings"
	"testing"

	"vestry/api"
)

// P12.3: variables that get types from atoms: they keep them, or get lower ones.
func TestInferAtoms(t *testing.T) {
	for _, c := range [][2]string{
		{"no().", ""},
		{"no() :- no().", ""},
		{"n(1).", ""},
		{"n(x) :- n(x).", "x number"},
		{"n(x) :- a(x).", "x A"},
		{"n(x) :- aa(x).", "x AA"},
		{"a(x) :- aa(x).", "x AA"},
		{"n(x) :- a(x), n(x).", "x A"},
		{"n(x) :- n(x), a(x).", "x A"},
		{"a(x) :- n(x), a(x), n(x).", "x A"},
		{"aa(x) :- n(x), a(x), aa(x), a(x), n(x).", "x AA"},
		{"aa(x) :- aa(x), n(x), a(x).", "x AA"},
		{"s(x) :- y(x), s(x).", "x S"},
		{"y(x) :- ss(x), y(x).", "x SS"},
		{"t(x) :- u(x).", "x U"},
		{"uu(x) :- t(x), uu(x), u(x).", "x UU"},
		{"e(x) :- e(x).", "x E"},
		{"nn(x, y) :- nn(y, x).", "y number, x number"},
		{"nn(x, y) :- n(y), a(x), aa(y), n(z).", "y AA, x A, z number"},
		{"nn(x, x) :- nn(x, x), a(x).", "x A"},
		{"mix(x, y, z) :- n(x), t(z), mix(x, y, z).", "x A, z U, y S"},
		{"no() :- n(_), t(_), y(_), mix(_, _, _).", ""},
		{"no() :- n(1), a(-2), aa(3), y(\"a\"), s(\"\"), ss(\"b\").", ""},
		{"no() :- n(x), n(x + 1), a(x * 2), aa(x - (1 % x)).", "x number"},
		{"no() :- nn(x, x / 2).", "x number"},
		{"no() :- n(1 + 2).", ""},
	} {
		infers(t, c[0], c[1])
	}
}

// P12.3: constructors as patterns give their Kids types, and take values apart of all types whose base is their sum.
func TestInferPatterns(t *testing.T) {
	for _, c := range [][2]string{
		{"no() :- t($Leaf()).", ""},
		{"no() :- uu($Leaf()).", ""},
		{"n(x) :- t($Node(x, _)).", "x number"},
		{"t(x) :- u($Node(_, x)).", "x T"},
		{"mix(a, s, u) :- uu($Tag(a, s)), t($Wrap(u)).", "a A, s S, u U"},
		{"mix(a, s, u) :- e($Only($Wrap(u))), e($Only($Tag(a, s))).", "u U, a A, s S"},
		{"t(l) :- t($Node(x, $Node(y, $Node(x, l)))), a(y), u(l).", "x number, y A, l U"},
		{"no() :- a(x), t($Node(x, $Leaf())).", "x A"},
		{"no() :- n(x), t($Tag(x, \"b\")), t($Tag(-1, _)).", "x A"},
		{"no() :- t($Node(x, $Node(x + 1, _))).", "x number"},
		{"no() :- t($Node(v, x)), uu(x), t($Wrap(x)).", "v number, x UU"},
		{"no() :- t($Wrap($Wrap($Leaf()))).", ""},
	} {
		infers(t, c[0], c[1])
	}
}

// P12.3: nots, comparisons and heads.
func TestInferValues(t *testing.T) {
	for _, c := range [][2]string{
		{"no() :- n(x), !n(x), !a(x), !aa(x), !b(x).", "x number"},
		{"no() :- a(x), b(y), !b(x), !a(y), !nn(x, y).", "x A, y B"},
		{"no() :- !n(1), !aa(-1), !b(1 + 2), !y(\"a\"), !ss(\"\").", ""},
		{"no() :- uu(x), t(y), !t(x), !uu(y), !u($Leaf()), !uu($Node(1, y)), !no().", "x UU, y T"},
		{"no() :- ss(x), y(z), !y(x), !s(x), !ss(z).", "x SS, z symbol"},
		{"no() :- aa(x), b(y), x = y, x != y, x < y, x <= y, x > y, x >= y.", "x AA, y B"},
		{"no() :- 1 = 2, 1 != 2, 1 < 2, 1 <= 2, 1 > 2, 1 >= 2.", ""},
		{"no() :- ss(x), y(z), x = z, z != x, x = \"a\", \"b\" != x.", "x SS, z symbol"},
		{"no() :- uu(x), t(y), x = y, y != x, x = $Leaf(), $Wrap(x) != y.", "x UU, y T"},
		{"no() :- e(x), e(y), x = y, x != $Only($Leaf()).", "x E, y E"},
		{"a(1).", ""},
		{"aa(-9223372036854775807).", ""},
		{"ss(\"a\").", ""},
		{"n(1 + 2).", ""},
		{"n(x * x) :- aa(x).", "x AA"},
		{"t($Leaf()).", ""},
		{"t($Node(1, $Node(2 + 3, $Leaf()))).", ""},
		{"t($Tag(1, \"a\")).", ""},
		{"t($Tag(x, s)) :- aa(x), ss(s).", "x AA, s SS"},
		{"t($Wrap(x)) :- uu(x).", "x UU"},
		{"t($Node(x, y)) :- aa(x), uu(y).", "x AA, y UU"},
		{"e($Only(x)) :- u(x).", "x U"},
		{"e($Only($Wrap(x))) :- u(x).", "x U"},
	} {
		infers(t, c[0], c[1])
	}
}

// P12.3: `=` gives a type to its left side, to its right side, and to neither; no other comparison does.
func TestInferGiven(t *testing.T) {
	for _, c := range [][2]string{
		{"n(x) :- x = 1.", "x number"},
		{"n(x) :- 1 = x.", "x number"},
		{"n(x) :- x = 1 + 2.", "x number"},
		{"y(x) :- x = \"a\".", "x symbol"},
		{"y(x) :- \"a\" = x.", "x symbol"},
		{"t(x) :- x = $Leaf().", "x T"},
		{"t(x) :- $Node(1, $Leaf()) = x.", "x T"},
		{"e(x) :- x = $Only($Leaf()).", "x E"},
		{"a(z) :- a(x), z = x.", "x A, z A"},
		{"aa(z) :- aa(x), x = z.", "x AA, z AA"},
		{"uu(z) :- uu(x), x = y, z = y.", "x UU, y UU, z UU"},
		{"n(z) :- aa(x), z = x + 0.", "x AA, z number"},
		{"a(z) :- z = 1, a(z).", "z A"},
		{"a(z) :- n(x), z = x, a(z).", "x number, z A"},
		{"n(x) :- n(x), z = x, a(x).", "x A, z number"},
		{"no() :- z = 1, z = 2, 3 = z, z = z.", "z number"},
		{"no() :- a(x), b(y), z = x, z = y, y = z.", "x A, y B, z A"},
		{"t(z) :- u(x), n(v), z = $Node(v, x), z != $Leaf().", "x U, v number, z T"},
	} {
		infers(t, c[0], c[1])
	}
	for _, sign := range []string{"!=", "<", "<=", ">", ">="} {
		refuses(t, api.ErrGround, "n(x) :- ^x "+sign+" 1.")
		refuses(t, api.ErrGround, "n(x) :- 1 "+sign+" ^x.")
	}
}

// P12.3: atoms of no relation, and of another width: the head first, then in order.
func TestInferAtomFaults(t *testing.T) {
	for _, c := range []struct {
		why    api.Errno
		clause string
	}{
		{api.ErrNone, "^q()."},
		{api.ErrNone, "^q(x) :- q(x)."},
		{api.ErrNone, "no() :- ^q(1)."},
		{api.ErrNone, "no() :- !^q(1)."},
		{api.ErrNone, "no() :- n(1), !n(1), 1 = 2, ^N(1), q()."},
		{api.ErrNone, "^Leaf()."},
		{api.ErrNone, "^a.b() :- a.c()."},
		{api.ErrWidth, "^no(1)."},
		{api.ErrWidth, "^n()."},
		{api.ErrWidth, "^n(1, 2)."},
		{api.ErrWidth, "no() :- ^nn(1)."},
		{api.ErrWidth, "no() :- n(1), !^nn(1, 2, 3)."},
		{api.ErrWidth, "no() :- !^no(_)."},
		{api.ErrNone, "^q(x) :- n(1, 2)."},
		{api.ErrWidth, "^n(1, 2) :- q()."},
		{api.ErrNone, "no() :- ^q(1), n(1, 2)."},
		{api.ErrWidth, "no() :- ^n(1, 2), !q(1)."},
		{api.ErrNone, "n(\"a\") :- n(\"b\"), x < 1, !^q(1)."},
		{api.ErrWidth, "n(x) :- y(1), \"a\" < _, ^y(1, 2)."},
	} {
		refuses(t, c.why, c.clause)
	}
}

// P12.3: wrong patterns.
func TestInferPatternFaults(t *testing.T) {
	for _, c := range []struct {
		why    api.Errno
		clause string
	}{
		{api.ErrType, "no() :- n(x), y(^x)."},
		{api.ErrType, "no() :- a(x), b(^x)."},
		{api.ErrType, "no() :- aa(x), b(^x)."},
		{api.ErrType, "no() :- n(x), a(x), b(^x)."},
		{api.ErrType, "no() :- t(x), e(^x)."},
		{api.ErrType, "no() :- t(x), n(^x)."},
		{api.ErrType, "no() :- u(x), e($Only(x)), s(^x)."},
		{api.ErrType, "no() :- mix(x, ^x, _)."},
		{api.ErrType, "no() :- z = 1, y(^z)."},
		{api.ErrType, "no() :- b(x), z = x, a(^z)."},
		{api.ErrType, "no() :- y(^1)."},
		{api.ErrType, "no() :- ss(^1)."},
		{api.ErrType, "no() :- t(^1)."},
		{api.ErrType, "no() :- n(^\"a\")."},
		{api.ErrType, "no() :- aa(^\"a\")."},
		{api.ErrType, "no() :- uu(^\"a\")."},
		{api.ErrType, "no() :- y(^1 + 2)."},
		{api.ErrType, "no() :- uu(^1 + 2)."},
		{api.ErrType, "no() :- y(^x + 2)."},
		{api.ErrGround, "no() :- n(^x + 2)."},
		{api.ErrGround, "no() :- nn(^x + 2, x)."},
		{api.ErrGround, "no() :- n(1 + ^_)."},
		{api.ErrGround, "no() :- n(1 + (2 * ^x))."},
		{api.ErrType, "no() :- y(s), n(1 + ^s)."},
		{api.ErrType, "no() :- n(^\"a\" + x)."},
		{api.ErrType, "no() :- n(1 + ^$Leaf())."},
		{api.ErrNone, "no() :- n(^$None())."},
		{api.ErrNone, "no() :- t(^$T())."},
		{api.ErrNone, "no() :- t($Node(1, ^$None(x, x)))."},
		{api.ErrType, "no() :- n(^$Leaf())."},
		{api.ErrType, "no() :- y(^$Leaf(1))."},
		{api.ErrType, "no() :- t(^$Only($Leaf()))."},
		{api.ErrType, "no() :- e(^$Leaf(1))."},
		{api.ErrType, "no() :- e($Only(^$Only(1)))."},
		{api.ErrWidth, "no() :- t(^$Leaf(1))."},
		{api.ErrWidth, "no() :- t(^$Node(\"a\"))."},
		{api.ErrWidth, "no() :- u(^$Node(\"a\", 1, 2))."},
		{api.ErrWidth, "no() :- t($Wrap(^$Wrap()))."},
		{api.ErrType, "no() :- t($Node(^\"a\", 1))."},
		{api.ErrType, "no() :- t($Node(1, ^1))."},
		{api.ErrType, "no() :- b(x), t($Tag(^x, _))."},
		{api.ErrType, "no() :- t($Node(x, ^x))."},
		{api.ErrGround, "no() :- t($Node(^x + 1, _))."},
	} {
		refuses(t, c.why, c.clause)
	}
}

// P12.3: wrong values, in a not, a comparison and a head alike.
func TestInferValueFaults(t *testing.T) {
	for _, c := range []struct {
		why   api.Errno
		value string
	}{
		{api.ErrGround, "^x"},
		{api.ErrGround, "^_"},
		{api.ErrGround, "^x + 1"},
		{api.ErrGround, "1 + ^x"},
		{api.ErrGround, "1 - (2 * ^_)"},
		{api.ErrGround, "^x + \"a\""},
		{api.ErrType, "^\"a\" + x"},
		{api.ErrType, "1 + ^\"a\""},
		{api.ErrType, "^k + k"},
		{api.ErrType, "i % ^k"},
		{api.ErrType, "i / ^w"},
		{api.ErrType, "i * ^$Leaf()"},
		{api.ErrNone, "i * ^$None()"},
		{api.ErrNone, "^$None()"},
		{api.ErrNone, "^$None(x)"},
		{api.ErrWidth, "^$Leaf(x)"},
		{api.ErrWidth, "^$Node()"},
		{api.ErrWidth, "^$Node(x, x, x)"},
		{api.ErrGround, "$Node(^x, 1)"},
		{api.ErrType, "$Node(^\"a\", x)"},
		{api.ErrGround, "$Node(1, ^_)"},
		{api.ErrType, "$Node(1, ^1)"},
		{api.ErrType, "$Node(i, ^i)"},
		{api.ErrType, "$Node(1, ^$Only($Leaf()))"},
		{api.ErrType, "$Node(1, $Node(2, ^k))"},
		{api.ErrType, "$Tag(^j, x)"},
		{api.ErrType, "$Tag(^i, \"a\")"},
		{api.ErrType, "$Tag(^1 + 1, \"a\")"},
		{api.ErrType, "$Tag(1, ^k)"},
		{api.ErrType, "$Wrap(^w)"},
		{api.ErrType, "$Wrap(^$Leaf())"},
		{api.ErrNone, "$Wrap(^$None())"},
		{api.ErrType, "$Only(^o)"},
	} {
		bound := "no() :- n(i), b(j), y(k), t(w), e(o), "
		for _, rel := range []string{"n", "y", "t", "uu"} {
			refuses(t, c.why, bound+"!"+rel+"("+c.value+").")
			refuses(t, c.why, strings.Replace(strings.TrimSuffix(bound, ", "), "no()", rel+"("+c.value+")", 1)+".")
		}
		for _, sign := range []string{"=", "!=", "<", "<=", ">", ">="} {
			if sign == "=" && c.value == "^x" { // it gets a type
				continue
			}
			refuses(t, c.why, bound+"1 + 1 "+sign+" ("+c.value+").")
			refuses(t, c.why, bound+"("+c.value+") "+sign+" 1.")
		}
		refuses(t, c.why, bound+"r = ("+c.value+").")
		if c.value != "^x" {
			refuses(t, c.why, bound+"("+c.value+") = r.")
		}
	}
}

// P12.3: values whose types are wrong where they stand.
func TestInferTypeFaults(t *testing.T) {
	for _, clause := range []string{
		"no() :- !n(^\"a\").", "no() :- !a(^\"a\").", "no() :- !y(^1).", "no() :- !ss(^1 + 2).", "no() :- !t(^1).", "no() :- !n(^$Leaf()).",
		"no() :- !t(^$Only($Leaf())).", "no() :- n(x), !y(^x).", "no() :- ss(x), !n(^x).", "no() :- t(x), !e(^x).", "no() :- !nn(1, ^\"a\").", "no() :- !nn(^\"a\", _).",
		"no() :- 1 = ^\"a\".", "no() :- 1 != ^\"a\".", "no() :- \"a\" = ^1 + 2.", "no() :- a(x), ss(y), x = ^y.", "no() :- t(x), e(y), x != ^y.",
		"no() :- $Leaf() = ^1.", "no() :- $Leaf() != ^$Only($Leaf()).", "no() :- t(x), x = ^1.", "no() :- t(x), 1 = ^x.",
		"n(^\"a\").", "a(^\"a\").", "y(^1).", "ss(^1).", "t(^1).", "e(^\"a\").", "n(^$Leaf()).", "t(^$Only($Leaf())).", "e(^$Leaf()).",
		"a(^x) :- n(x).", "aa(^x) :- a(x).", "b(^x) :- a(x).", "s(^x) :- y(x).", "ss(^x) :- s(x).", "u(^x) :- t(x).", "uu(^x) :- u(x).", "n(^x) :- y(x).", "t(^x) :- e(x).",
		"a(^1 + 1).", "aa(^x + 0) :- aa(x).", "y(^1 + 1).", "u(^$Leaf()).", "uu(^$Wrap(x)) :- uu(x).",
		"a(^x) :- x = 1.", "s(^x) :- \"a\" = x.", "u(^x) :- x = $Leaf().", "nn(1, ^\"a\").", "mix(1, ^x, x) :- u(x).", "mix(^x, x, x) :- u(x).",
	} {
		refuses(t, api.ErrType, clause)
	}
	for _, sign := range []string{"<", "<=", ">", ">="} {
		for _, sides := range []string{"^\"a\" S 1", "1 S ^\"a\"", "^\"a\" S \"a\"", "^\"a\" S $Leaf()", "^x S 1", "1 S ^x", "^x S x", "^w S 1 + 2", "1 + 2 S ^w", "^$Leaf() S 1", "1 S ^$Leaf()"} {
			refuses(t, api.ErrType, "no() :- ss(x), uu(w), "+strings.Replace(sides, "S", sign, 1)+".")
		}
	}
}

// P12.3: which fault counts, where several could be told.
func TestInferOrder(t *testing.T) {
	for _, c := range []struct {
		why    api.Errno
		clause string
	}{
		{api.ErrType, "n(x) :- y(^1), !n(x)."},
		{api.ErrGround, "n(\"a\") :- !n(^x), y(1)."},
		{api.ErrGround, "n(\"a\") :- 1 < ^x, y(1)."},
		{api.ErrType, "y(1) :- n(^\"a\"), !n(x), x < 1."},
		{api.ErrType, "nn(^\"a\", x)."},
		{api.ErrGround, "nn(^x, \"a\")."},
		{api.ErrType, "no() :- nn(^\"a\", $None())."},
		{api.ErrNone, "no() :- nn(^$None(), \"a\")."},
		{api.ErrGround, "no() :- !nn(^_, \"a\")."},
		{api.ErrGround, "no() :- \"a\" < ^x."},
		{api.ErrGround, "no() :- ^x < $None()."},
		{api.ErrNone, "no() :- \"a\" < ^$None()."},
		{api.ErrGround, "no() :- ^_ = x."},
		{api.ErrGround, "no() :- x = ^_."},
		{api.ErrGround, "no() :- x = ^x."},
		{api.ErrGround, "no() :- x = ^y."},
		{api.ErrGround, "no() :- x = ^x + 1."},
		{api.ErrGround, "no() :- ^x + 1 = x."},
		{api.ErrGround, "no() :- 1 = ^_."},
		{api.ErrGround, "no() :- ^_ != 1."},
		{api.ErrGround, "n(^x)."},
		{api.ErrGround, "n(^x) :- no()."},
		{api.ErrGround, "n(^_)."},
		{api.ErrGround, "no() :- !n(^x), n(x)."},
		{api.ErrGround, "no() :- ^x < 1, n(x)."},
		{api.ErrGround, "no() :- n(^x + 1), n(x)."},
		{api.ErrType, "no() :- n(^\"a\" + $None())."},
		{api.ErrNone, "no() :- n(^$None() + \"a\")."},
		{api.ErrType, "t($Node(^\"a\", $None()))."},
		{api.ErrNone, "t($Wrap(^$None(x)))."},
		{api.ErrType, "no() :- t($Node(^\"a\", $None()))."},
		{api.ErrNone, "no() :- t($Node(1, ^$None(\"a\")))."},
		{api.ErrType, "no() :- n(^$Node(1))."},
		{api.ErrWidth, "no() :- t(^$Node($None()))."},
		{api.ErrWidth, "n(^$Node($None()))."},
		{api.ErrType, "no() :- y(^x / 0)."},
	} {
		refuses(t, c.why, c.clause)
	}
}

// P12.3: the first Decl and the first constructor of a name count, also where Check does not take the program.
func TestInferFirst(t *testing.T) {
	text := ".type T = L {} .type U = L {x: number} | M {} .type V = M {x: symbol} .type A <: number .type A <: symbol .decl r(x: T) .decl r() .decl m(x: U) .decl v(x: V) .decl a(x: A) "
	for _, c := range []struct {
		why    api.Errno
		clause string
	}{
		{api.OK, "r($L()) :- r($L()), m($M()), a(1)."},
		{api.OK, "m($M()) :- !r($L()), !a(1)."},
		{api.OK, "a(1)."},
		{api.ErrWidth, "^r()."},
		{api.ErrWidth, "r($L()) :- ^r()."},
		{api.ErrWidth, "r(^$L(1))."},
		{api.ErrType, "m(^$L())."},
		{api.ErrType, "m($M()) :- m(^$L(1))."},
		{api.ErrType, "v(^$M())."},
		{api.ErrType, "r($L()) :- v(^$M(\"a\"))."},
		{api.ErrType, "a(^\"a\")."},
		{api.ErrType, "r($L()) :- a(^\"a\")."},
	} {
		p, at := unmarked(t, text+c.clause)
		if _, fault := Infer(p, p.Clauses[0]); fault != (api.Fault{Why: c.why, At: max(at, 0)}) {
			t.Errorf("%s: %v, want %v at %d", c.clause, fault, c.why, at)
		}
	}
}

// P12.3: columns of types that are none, or whose Subs lead round: a variable gets such a type, and no other column takes it.
func TestInferNoBase(t *testing.T) {
	text := ".type R <: R .type W <: X .decl n(x: number) .decl y(x: symbol) .decl r(x: R) .decl w(x: W) .decl x(x: X) "
	for _, c := range []struct {
		why          api.Errno
		clause, want string
	}{
		{api.OK, "n(1) :- r(a), w(b), x(c).", "a R, b W, c X"},
		{api.OK, "n(1) :- r(_), w(_), x(a), b = a.", "a X, b X"},
		{api.ErrType, "n(1) :- r(a), r(^a).", ""},
		{api.ErrType, "n(1) :- x(a), x(^a).", ""},
		{api.ErrType, "n(1) :- w(a), x(^a).", ""},
		{api.ErrType, "n(1) :- n(a), w(^a).", ""},
		{api.ErrType, "n(1) :- w(a), n(^a).", ""},
		{api.ErrType, "r(^a) :- r(a).", ""},
		{api.ErrType, "x(^1).", ""},
		{api.ErrType, "r(^\"a\").", ""},
		{api.ErrType, "n(1) :- x(^1).", ""},
		{api.ErrType, "n(1) :- r(^\"a\").", ""},
		{api.ErrType, "n(1) :- w(^1 + 2).", ""},
		{api.ErrType, "n(1) :- !w(^1).", ""},
		{api.ErrType, "n(1) :- r(a), !n(^a).", ""},
		{api.ErrType, "n(1) :- r(a), a = ^1.", ""},
		{api.ErrType, "n(1) :- r(a), ^a < 1.", ""},
		{api.ErrType, "n(1) :- r(a), n(1 + ^a).", ""},
		{api.OK, "n(1) :- r(a), x(b), !r(a), !w(b), a = b, a != b.", "a R, b X"},
	} {
		p, at := unmarked(t, text+c.clause)
		vars, fault := Infer(p, p.Clauses[0])
		if fault != (api.Fault{Why: c.why, At: max(at, 0)}) || listed(vars) != c.want {
			t.Errorf("%s: %s %v, want %s %v at %d", c.clause, listed(vars), fault, c.want, c.why, at)
		}
	}
}

// P12.3: a clause need not be one of the program, which need not be flat; its own Clauses turn nothing.
func TestInferOther(t *testing.T) {
	p := parsed(t, world+".comp C { } .init i = C n(\"a\"). q().")
	other := parsed(t, "nn(x, y) :- a(x), y = x. n(x).")
	vars, fault := Infer(p, other.Clauses[0])
	if listed(vars) != "x A, y A" || fault != (api.Fault{}) {
		t.Errorf("%s %v", listed(vars), fault)
	}
	if _, fault := Infer(p, other.Clauses[1]); fault != (api.Fault{Why: api.ErrGround, At: other.Clauses[1].Head.Args[0].At}) {
		t.Errorf("%v", fault)
	}
	if _, fault := Infer(api.Prog{}, api.Clause{Head: api.Atom{At: 8}, At: 9}); fault != (api.Fault{Why: api.ErrNone, At: 8}) {
		t.Errorf("of no program: %v", fault)
	}
}
