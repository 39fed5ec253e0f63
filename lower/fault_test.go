package lower

import (
	"slices"
	"strconv"
	"strings"
	"testing"

	"vestry/api"
	"vestry/ram"
	"vestry/term"
)

const fault = "error 19"

// P17.2: an arithmetic fault in a Body: in each Lit, once the Lits ahead of it hold, and not ahead of that.
func TestFaultsInBodies(t *testing.T) {
	const decl = world + ".decl p(x: number) "
	for _, c := range [][3]string{
		{"p(z) :- e(x, y), z = x / y.", "e(6, 3). e(4, 2). e(3, 1).", "p(2). p(3)"},
		{"p(z) :- e(x, y), z = x / y.", "e(6, 3). e(4, 0). e(3, 1).", fault},
		{"p(z) :- e(x, y), x % y = z.", "e(6, 0).", fault},
		{"p(z) :- e(x, y), y != 0, z = x / y.", "e(6, 0). e(3, 1).", "p(3)"},
		{"p(z) :- e(x, y), z = x / y, y != 0.", "e(6, 0). e(3, 1).", fault},
		{"p(z) :- e(x, y), n(y), z = x / y.", "e(6, 0). e(3, 1). n(1).", "p(3)"},
		{"p(z) :- e(x, y), z = x / y, n(y).", "e(6, 0). e(3, 1). n(1).", fault},
		{"p(z) :- e(x, y), !n(y), z = x / y.", "e(6, 0). e(3, 1). n(0).", "p(3)"},
		{"p(x) :- e(x, _), 1 / 0 > 0.", "", ""},
		{"p(x) :- e(x, _), 1 / 0 > 0.", "e(1, 1).", fault},
		{"p(x) :- 1 / 0 > 0, e(x, _).", "", fault},
		{"p(x) :- x = 1 % 0, e(x, _).", "", fault},
		{"p(x) :- e(x, y), 1 = 1, x < 3 / y.", "e(1, 0).", fault},
		{"p(x) :- e(x, y), 3 / y > x.", "e(1, 0).", fault},
		{"p(x) :- e(x, y), x > 3, 3 / y > x.", "e(1, 0).", ""},
		{"p(x) :- n(x), e(x, 1 / x).", "n(0). e(0, 5).", fault},
		{"p(x) :- n(x), e(x, 1 / x).", "n(0).", ""},
		{"p(x) :- n(x), e(x, 1 / x).", "n(0). n(1). e(1, 1). e(2, 0).", "p(1)"},
		{"p(x) :- n(x), e(1 / x, x).", "n(0). n(1). e(1, 1).", fault},
		{"p(x) :- n(x), e(1, 1 / x).", "n(0). e(2, 2).", ""},
		{"p(x) :- n(x), t($Node(x, $Node(1 / x, _))).", "n(0). t($Node(0, $Leaf())). t($Node(1, $Node(1, $Leaf()))).", ""},
		{"p(x) :- n(x), t($Node(x, $Node(1 / x, _))).", "n(0). t($Node(0, $Node(1, $Leaf()))).", fault},
		{"p(x) :- n(x), t($Node(1 / x, $Leaf())).", "n(0). t($Node(0, $Node(1, $Leaf()))).", fault},
		{"p(x) :- n(x), !e(x, 1 / x).", "n(0).", fault},
		{"p(x) :- n(x), !e(1 / x, x).", "n(0).", fault},
		{"p(x) :- n(x), !e(x, 1 / x).", "n(2). n(1). e(1, 1).", "p(2)"},
		{"p(x) :- n(x), y = x + 9223372036854775807, y > 0.", "n(0). n(-1).", "p(-1). p(0)"},
		{"p(x) :- n(x), y = x + 9223372036854775807, y > 0.", "n(0). n(1).", fault},
		{"p(x) :- n(x), y = x * x, y > 0.", "n(3037000500).", fault},
		{"p(x) :- n(x), y = (x + 1) / (x - x), y > 0.", "n(1).", fault},
	} {
		leaves(t, decl+c[0], c[1], c[2])
	}
}

// P17.2: an arithmetic fault in a head, behind the Body.
func TestFaultsInHeads(t *testing.T) {
	for _, c := range [][3]string{
		{".decl p(x: number) p(6 / x) :- n(x).", "n(1). n(2).", "p(3). p(6)"},
		{".decl p(x: number) p(6 / x) :- n(x).", "n(1). n(0). n(2).", fault},
		{".decl p(x: number) p(6 / x) :- n(x), x > 0.", "n(1). n(0).", "p(6)"},
		{".decl p(x: number, y: number) p(x, 1 - (1 / 0)) :- n(x).", "n(1).", fault},
		{".decl p(x: number, y: number) p(x, 1 - (1 / 0)) :- n(x).", "", ""},
		{".decl p(x: number) p(1 / 0). p(2).", "", fault},
		{".decl p(x: number) p(x) :- n(x). p(x - 1) :- n(x).", "n(-9223372036854775807). n(-9223372036854775806).", "p(-9223372036854775808). p(-9223372036854775807). p(-9223372036854775806)"},
		{".decl p(x: T) p($Node(1 / x, $Leaf())) :- n(x).", "n(0).", fault},
	} {
		leaves(t, world+c[0], c[1], c[2])
	}
}

// chain: a list so deep.
func chain(deep int) api.Val {
	v := api.Val{Kind: api.Con, S: "Leaf"}
	for range deep - 1 {
		v = api.Val{Kind: api.Con, S: "Node", Args: []api.Val{numeral(1), v}}
	}
	return v
}

// chains: facts of t, and a fact of p as it is told.
func chains(deep ...int) []api.Fact {
	var all []api.Fact
	for _, n := range deep {
		all = append(all, api.Fact{Rel: "t", Args: []api.Val{chain(n)}})
	}
	return all
}

// P17.2: a constructor's value that may not be, too deep or too large, is a fault, too.
func TestFaultsOfConstructors(t *testing.T) {
	const decls = world + ".decl p(x: T) "
	told := func(deep int) string { return "p(" + term.Text(chain(deep)) + ")" }
	leavesOver(t, decls+"p(l) :- t(l), t($Node(_, m)), m != l.", chains(32), told(32))
	leavesOver(t, decls+"p($Node(1, l)) :- t(l).", chains(31), told(32))
	leavesOver(t, decls+"p($Node(1, l)) :- t(l).", chains(32), fault)
	leavesOver(t, decls+"p(l) :- t(l), !t($Node(1, l)).", chains(31), told(31))
	leavesOver(t, decls+"p(l) :- t(l), !t($Node(1, l)).", chains(32), fault)
	leavesOver(t, decls+"p(l) :- t(l), m = $Node(1, $Node(2, l)), m != l.", chains(30), told(30))
	leavesOver(t, decls+"p(l) :- t(l), m = $Node(1, $Node(2, l)), m != l.", chains(31), fault)
	leavesOver(t, decls+"p(l) :- t(l), $Node(1, l) != l.", chains(32), fault)
	leavesOver(t, decls+"p(l) :- t(l), t($Node(1, l)).", chains(32, 31), told(31))
	const wide = ".type W = N {} | O {a: W, b: W, c: W, d: W} .decl w(x: W) input .decl p(x: W, y: number) "
	of := func(part string) string { return "$O(" + strings.Join(slices.Repeat([]string{part}, 4), ", ") + ")" }
	two := of(of("$N()")) // 21 parts
	four := of(of(two))   // 341 parts
	leaves(t, wide+"p(x, 3) :- w(x), y = $O(x, x, x, $N()), y != x.", "w("+four+").", fault)
	leaves(t, wide+"p($N(), 3) :- w(x), y = $O(x, x, $N(), $N()), y != x.", "w("+four+").", "p($N(), 3)")
}

// P17.2: a fault of an instance that comes only in a later round, whichever of the stratum's Lits its last fact is of.
func TestFaultsInLaterRounds(t *testing.T) {
	const given = "e(1, 2). e(2, 3). e(3, 4). n(1)."
	const decl = world + ".decl p(x: number) p(x) :- n(x). "
	for rule, want := range map[string]string{
		"p(y) :- p(x), e(x, y), 1 / (y - 9) <= 0.":                                     "p(1). p(2). p(3). p(4)",
		"p(y) :- p(x), e(x, y), 1 / (y - 4) <= 0.":                                     fault,
		"p(y) :- p(x), e(x, y), 1 / (x - 3) <= 0.":                                     fault,
		"p(y) :- p(x), 1 / (x - 4) <= 0, e(x, y).":                                     fault,
		"p(y) :- e(x, y), p(x), 1 / (y - 4) <= 0.":                                     fault,
		"p(y) :- e(x, y), 1 / (y - 4) <= 0, p(x).":                                     fault,
		"p(y) :- e(x, y), p(x). p(x) :- p(x), p(y), x / (y - 4) > 100.":                fault,
		"p(y) :- e(x, y), p(x). p(x) :- p(x), y = x / (x - 4), p(y).":                  fault,
		"p(y) :- e(x, y), p(x). p(x) :- p(x), p(y), x > y + 2, z = x / (y - 1), p(z).": fault,
		"p(y) :- e(x, y), p(x). p(x) :- p(x), p(y), x > y + 3, z = x / (y - 1), p(z).": "p(1). p(2). p(3). p(4)",
		"p(y) :- e(x, y), p(x). p(x) :- p(x), e(x / (x - 4), _).":                      fault,
		"p(y) :- e(x, y), p(x). p(x) :- p(x), !e(1 / (x - 4), x).":                     fault,
		"p(y) :- e(x, y), p(x), x < 3. p(x) :- p(x), !e(1 / (x - 4), x).":              "p(1). p(2). p(3)",
		".decl q(x: number) q(y) :- p(x), e(x, y). p(x) :- q(x), 1 / (x - 4) <= 0.":    fault,
		".decl q(x: number) q(1 / (x - 4)) :- p(x). p(y) :- e(x, y), p(x).":            fault,
	} {
		leaves(t, decl+rule, given, want)
	}
}

// P17.2: a fault in one stratum is told, whatever becomes of later ones, which may get too large.
func TestFaultAheadOfOthers(t *testing.T) {
	leaves(t, world+".decl p(x: number) .decl q(x: number) p(1 / x) :- n(x). q(x) :- n(x), !p(x).", "n(0). n(1).", fault)
	leaves(t, world+".decl p(x: number) .decl q(x: number) q(x) :- n(x), !p(x). p(1 / x) :- a(x). q(x) :- q(x), q(_).", "n(0). n(1). a(0).", fault)
	p := parsed(t, world+".decl p(x: number) .decl q(x: number) p(1 / x) :- n(x). q(x * 40 + y) :- n(x), n(y), !p(x).")
	var given []api.Fact
	for i := range 40 {
		given = append(given, api.Fact{Rel: "n", Args: []api.Val{numeral(i)}})
	}
	for _, m := range []api.Ram{lowered(t, p), ram.Tight(lowered(t, p))} {
		if out, e := ran(p, m, given); e != api.ErrFull && e != api.ErrFault {
			t.Errorf("%q, %v", out, e)
		}
	}
}

// rising: facts of a relation, of the numbers below n.
func rising(rel string, n int) []api.Fact {
	var all []api.Fact
	for i := range n {
		all = append(all, api.Fact{Rel: rel, Args: []api.Val{numeral(i)}})
	}
	return all
}

// P17.2: a relation may have just MaxFacts facts, given, by clauses, and by recursive ones, and not one more.
func TestManyFacts(t *testing.T) {
	const decl = ".decl p(x: number) input .decl n(x: number) input "
	for text, clauses := range map[string]int{
		decl:                                0,
		decl + "p(-1).":                     1,
		decl + "p(-1). p(-2). p(-1). p(0).": 2,
		decl + "p(x) :- p(x).":              0,
		decl + "p(-1) :- p(1).":             1,
		decl + "p(-1) :- p(1). p(-2) :- p(-1). p(-3) :- p(-2).": 3,
		decl + "p(-1). p(-2) :- p(-1). p(-1) :- p(-2).":         2,
	} {
		p := parsed(t, text)
		for _, m := range []api.Ram{lowered(t, p), ram.Tight(lowered(t, p))} {
			if out, e := ran(p, m, rising("p", api.MaxFacts-clauses)); len(out) != api.MaxFacts || e != api.OK {
				t.Errorf("%s: %d facts, %v", text, len(out), e)
			}
			if clauses == 0 {
				continue
			}
			if out, e := ran(p, m, rising("p", api.MaxFacts-clauses+1)); len(out) != 0 || e != api.ErrFull {
				t.Errorf("%s: %d facts, %v", text, len(out), e)
			}
		}
	}
	p := parsed(t, decl+"p(1000 + x * 31 + y) :- n(x), n(y).")
	if out, e := ran(p, lowered(t, p), append(rising("n", 31), rising("p", 32)...)); len(out) != api.MaxFacts || e != api.OK {
		t.Errorf("%d facts, %v", len(out), e)
	}
	if out, e := ran(p, lowered(t, p), append(rising("n", 31), rising("p", 63)...)); len(out) != api.MaxFacts+31 || e != api.OK {
		t.Errorf("%d facts, %v", len(out), e)
	}
	if out, e := ran(p, lowered(t, p), append(rising("n", 31), rising("p", 64)...)); e != api.ErrFull {
		t.Errorf("%d facts, %v", len(out), e)
	}
}

// P17.2: many facts of the program itself.
func TestManyFactsOfTheProgram(t *testing.T) {
	p := parsed(t, ".decl p(x: number) .decl q() q() :- p(700).")
	for i := range api.MaxFacts - 1 {
		p.Clauses = append(p.Clauses, api.Clause{Head: api.Atom{Rel: "p", Args: []api.Expr{{Kind: api.ENum, N: i}}}})
	}
	out, e := ran(p, lowered(t, p), nil)
	if len(out) != api.MaxFacts || out[1022] != "p("+strconv.Itoa(1022)+")" || out[1023] != "q()" || e != api.OK {
		t.Errorf("%d facts, %v", len(out), e)
	}
}
