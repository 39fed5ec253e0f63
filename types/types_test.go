package types

import (
	"strings"
	"testing"

	"vestry/api"
	"vestry/syn"
)

// parsed: the program of a text.
func parsed(t *testing.T, text string) api.Prog {
	t.Helper()
	p, fault := syn.Parse(text)
	if fault.Why != api.OK {
		t.Fatalf("%q: %v", text, fault)
	}
	return p
}

// unmarked: the program of a text in which a mark ^ stands, and the place of the mark; -1 without one.
func unmarked(t *testing.T, text string) (api.Prog, int) {
	t.Helper()
	return parsed(t, strings.Replace(text, "^", "", 1)), strings.Index(text, "^")
}

// checks: Check answers this error at the place of the mark.
func checks(t *testing.T, why api.Errno, text string) {
	t.Helper()
	p, at := unmarked(t, text)
	if fault := Check(p); fault != (api.Fault{Why: why, At: at}) {
		t.Errorf("%s: %v, want %v at %d", text, fault, why, at)
	}
}

// takes: Check answers no fault.
func takes(t *testing.T, text string) {
	t.Helper()
	if fault := Check(parsed(t, text)); fault != (api.Fault{}) {
		t.Errorf("%s: %v, want none", text, fault)
	}
}

// world: types and relations for clauses, each relation named after the type of its column.
const world = `
.type A <: number .type AA <: A .type B <: number
.type S <: symbol .type SS <: S
.type T = Leaf {} | Node {v: number, l: T} | Tag {a: A, s: S} | Wrap {t: U}
.type U <: T .type UU <: U
.type E = Only {t: T}
.decl n(x: number) .decl a(x: A) .decl aa(x: AA) .decl b(x: B)
.decl y(x: symbol) .decl s(x: S) .decl ss(x: SS)
.decl t(x: T) .decl u(x: U) .decl uu(x: UU) .decl e(x: E)
.decl no() .decl nn(x: number, y: number) .decl mix(x: A, y: S, z: U)
`

// listed: variables and their types as `x A, y S`.
func listed(vars []api.Field) string {
	var all []string
	for _, v := range vars {
		all = append(all, v.Name+" "+v.Type)
	}
	return strings.Join(all, ", ")
}

// infers: of a clause over the world Infer answers these variables, and Check takes it.
func infers(t *testing.T, clause, want string) {
	t.Helper()
	p := parsed(t, world+clause)
	vars, fault := Infer(p, p.Clauses[0])
	if got := listed(vars); fault != (api.Fault{}) || got != want {
		t.Errorf("%s: %s %v, want %s", clause, got, fault, want)
	}
	if fault := Check(p); fault != (api.Fault{}) {
		t.Errorf("%s: Check: %v", clause, fault)
	}
}

// refuses: of a clause over the world both Infer and Check answer this error at the place of the mark, and no variables.
func refuses(t *testing.T, why api.Errno, clause string) {
	t.Helper()
	p, at := unmarked(t, world+clause)
	vars, fault := Infer(p, p.Clauses[0])
	if fault != (api.Fault{Why: why, At: at}) || len(vars) != 0 {
		t.Errorf("%s: %v %s, want %v at %d", clause, fault, listed(vars), why, at)
	}
	if checked := Check(p); checked != fault {
		t.Errorf("%s: Check: %v, want %v", clause, checked, fault)
	}
}

// based: Base answers this, or that there is none of "".
func based(t *testing.T, p api.Prog, name, want string) {
	t.Helper()
	if got, there := Base(p, name); got != want || there != (want != "") {
		t.Errorf("base of %s: %q %v, want %q", name, got, there, want)
	}
}

// P12.1: bases of types.
func TestBase(t *testing.T) {
	p := parsed(t, world)
	for name, want := range map[string]string{
		"number": "number", "symbol": "symbol",
		"A": "number", "AA": "number", "B": "number",
		"S": "symbol", "SS": "symbol",
		"T": "T", "U": "T", "UU": "T", "E": "E",
		"": "", "X": "", "Leaf": "", "n": "", "x": "", "a": "", "Number": "", "number ": "",
	} {
		based(t, p, name, want)
	}
	for _, name := range []string{"number", "symbol"} {
		based(t, api.Prog{}, name, name)
	}
	based(t, api.Prog{}, "A", "")
}

// P12.1: types behind what stands on them have the same base as ahead of it.
func TestBaseInAnyOrder(t *testing.T) {
	p := parsed(t, ".type C <: B .type A <: T .type B <: A .type T = L {} .type D <: C")
	for _, name := range []string{"A", "B", "C", "D", "T"} {
		based(t, p, name, "T")
	}
}

// P12.1: Subs that lead round, and to what is none.
func TestNoBase(t *testing.T) {
	p := parsed(t, ".type O <: O .type P <: Q .type Q <: P .type I <: J .type J <: K .type K <: L .type L <: J .type W <: X .type V <: W .type G <: Leaf .type T = Leaf {}")
	for _, name := range []string{"O", "P", "Q", "I", "J", "K", "L", "W", "V", "X", "G", "Leaf"} {
		based(t, p, name, "")
		for _, other := range []string{name, "J", "X", "W", "number", "T", ""} {
			if Below(p, name, other) || other != "T" && Below(p, "T", other) {
				t.Errorf("%s or T is below %s", name, other)
			}
		}
	}
	based(t, p, "T", "T")
}

// P12.1: what is below what: each type and those that its Subs lead to, no others.
func TestBelow(t *testing.T) {
	p := parsed(t, world)
	rows := [][]string{{"number"}, {"symbol"}, {"A", "number"}, {"AA", "A", "number"}, {"B", "number"}, {"S", "symbol"}, {"SS", "S", "symbol"}, {"T"}, {"U", "T"}, {"UU", "U", "T"}, {"E"}}
	for _, row := range rows {
		above := map[string]bool{}
		for _, name := range row {
			above[name] = true
		}
		for _, other := range append(rows, []string{"X"}, []string{""}, []string{"Leaf"}) {
			if got := Below(p, row[0], other[0]); got != above[other[0]] {
				t.Errorf("%s below %s: %v", row[0], other[0], got)
			}
		}
	}
	for _, name := range []string{"X", "", "Leaf"} {
		if Below(p, name, name) || Below(p, name, "number") {
			t.Errorf("%q is below something", name)
		}
	}
	if !Below(api.Prog{}, "symbol", "symbol") || Below(api.Prog{}, "symbol", "number") {
		t.Error("symbol is below itself alone")
	}
}

// P12.1: of several Types of one name the first one counts; number and symbol are ahead of all.
func TestFirstType(t *testing.T) {
	p := parsed(t, ".type A <: number .type A <: symbol .type B <: A .type T = L {} .type T <: A .type number <: symbol .type symbol = M {} .type R <: number .type Q <: R .type R <: R")
	for name, want := range map[string]string{"A": "number", "B": "number", "T": "T", "number": "number", "symbol": "symbol", "R": "number", "Q": "number"} {
		based(t, p, name, want)
	}
	for _, pair := range [][2]string{{"A", "symbol"}, {"B", "symbol"}, {"T", "A"}, {"number", "symbol"}} {
		if Below(p, pair[0], pair[1]) {
			t.Errorf("%s is below %s", pair[0], pair[1])
		}
	}
	if !Below(p, "B", "number") || !Below(p, "Q", "R") {
		t.Error("the first one does not count")
	}
	ring := parsed(t, ".type A <: B .type B <: A .type A <: number .type B <: number")
	based(t, ring, "A", "")
	based(t, ring, "B", "")
}

// P12.1: a Type without a Sub is a sum, with no constructors too; one with a Sub is a subtype, whatever else it has; a name may be any text.
func TestBaseOfNoText(t *testing.T) {
	p := api.Prog{Types: []api.TypeDecl{{Name: "T"}, {Name: "U", Sub: "T"}, {Name: "W", Sub: "number", Ctors: []api.Ctor{{Name: "L"}}}, {Name: ""}, {Name: "a b", Sub: "."}, {Name: ".", Sub: "symbol"}}}
	for name, want := range map[string]string{"T": "T", "U": "T", "W": "number", "a b": "symbol", ".": "symbol"} {
		based(t, p, name, want)
	}
	if base, there := Base(p, ""); base != "" || !there || !Below(p, "", "") {
		t.Errorf("the sum without a name: %q %v", base, there)
	}
}

// P12.1: Base and Below look at Types alone: programs that are not flat have them, too.
func TestBaseNotFlat(t *testing.T) {
	p := parsed(t, ".type A <: number .comp C { .type B <: number } .init i = C .decl r(x: Q) r(1, 2).")
	based(t, p, "A", "number")
	based(t, p, "B", "")
	if !Below(p, "A", "number") {
		t.Error("A is not below number")
	}
}

// P12.2: programs that Check takes.
func TestCheckTakes(t *testing.T) {
	for _, text := range []string{
		"", world,
		".type A <: number", ".type B <: A .type A <: number", ".type T = Leaf {}", ".type T = Leaf {} | Node {l: T, r: T}",
		".type T = A {u: U} .type U = B {t: T} .type V <: U", ".type T = T {T: T}", ".type T = A {x: number} | B {x: number}",
		".type T = A {x: S, y: N} .type S <: symbol .type N <: number",
		".decl r()", ".decl r(x: number)", ".decl r(x: number, y: symbol) input output .decl s(x: number)", ".decl r(r: number)",
		".type r = r {} .decl r(r: r)", ".decl r(x: T) .type T = A {}",
		".decl r() r().", ".decl r(x: number) r(1). r(2).", "r(x) :- r(x). .decl r(x: number)",
	} {
		takes(t, text)
	}
	if fault := Check(api.Prog{Comps: []api.Comp{}, Inits: []api.Init{}, Types: []api.TypeDecl{{Name: "T"}}}); fault != (api.Fault{}) {
		t.Errorf("a sum of no constructors: %v", fault)
	}
}

// P12.2: each fault of a program at its place.
func TestCheckFaults(t *testing.T) {
	for _, c := range []struct {
		why  api.Errno
		text string
	}{
		{api.ErrArg, "^.comp C { }"},
		{api.ErrArg, "^.init d = C"},
		{api.ErrArg, ".type A <: number ^.comp C { } .comp D { }"},
		{api.ErrArg, ".decl r() ^.init d = C .init e = C"},
		{api.ErrArg, "^.type number <: symbol"},
		{api.ErrArg, "^.type symbol = A {}"},
		{api.ErrArg, ".type A <: number ^.type number <: number"},
		{api.ErrThere, ".type A <: number ^.type A <: number"},
		{api.ErrThere, ".type A = L {} .type B <: number ^.type A <: B"},
		{api.ErrThere, "^.type A = L {} | L {}"},
		{api.ErrThere, "^.type A = L {} | M {} | L {x: number}"},
		{api.ErrThere, ".type A = L {} ^.type B = L {}"},
		{api.ErrThere, ".type A = K {} | L {} .type C <: A ^.type B = M {} | L {}"},
		{api.ErrThere, "^.type A = L {x: number, x: number}"},
		{api.ErrThere, "^.type A = L {x: number} | M {x: number, y: number, x: symbol}"},
		{api.ErrNone, "^.type A <: X"},
		{api.ErrNone, "^.type A <: L .type B = L {}"},
		{api.ErrNone, ".type B <: A ^.type A <: X"},
		{api.ErrNone, "^.type A = L {x: X}"},
		{api.ErrNone, "^.type A = L {} | M {x: number, y: L}"},
		{api.ErrNone, ".type A = L {x: B} ^.type B <: a.b"},
		{api.ErrRing, "^.type A <: A"},
		{api.ErrRing, "^.type A <: B .type B <: A"},
		{api.ErrRing, ".type N <: number ^.type A <: B .type B <: C .type C <: A"},
		{api.ErrRing, "^.type O <: A .type A <: B .type B <: A"},
		{api.ErrRing, ".type T = L {a: A} ^.type A <: A"},
		{api.ErrThere, ".decl r() ^.decl r(x: number)"},
		{api.ErrThere, ".decl r() .decl s() ^.decl r()"},
		{api.ErrThere, "^.decl r(x: number, x: number)"},
		{api.ErrThere, "^.decl r(x: number, y: number, z: symbol, y: symbol)"},
		{api.ErrNone, "^.decl r(x: X)"},
		{api.ErrNone, ".type T = L {} .decl q(x: T) ^.decl r(x: number, y: L)"},
		{api.ErrNone, ".decl r() ^q() :- r()."},
		{api.ErrNone, ".decl r() r() :- r(), ^q()."},
		{api.ErrWidth, ".decl r() r(). ^r(1)."},
	} {
		checks(t, c.why, c.text)
	}
}

// P12.2: which fault counts, where several could be told.
func TestCheckOrder(t *testing.T) {
	for _, c := range []struct {
		why  api.Errno
		text string
	}{
		{api.ErrArg, ".init d = C .type number <: X ^.comp C { .comp D { } }"},
		{api.ErrArg, ".type number <: X ^.init d = C"},
		{api.ErrArg, ".decl r(x: X) r(x). ^.init d = C"},
		{api.ErrArg, "^.type number <: number .type number <: number"},
		{api.ErrArg, "^.type symbol = L {x: X, x: X} | L {}"},
		{api.ErrArg, ".type A <: X .type B <: B ^.type number <: A .type A <: number"},
		{api.ErrThere, ".type A <: X .type B <: B ^.type A <: number .type number <: A"},
		{api.ErrThere, ".type A <: A .type B = L {x: X} ^.type C = L {}"},
		{api.ErrThere, "^.type A = L {x: X, x: X} .type symbol <: A"},
		{api.ErrThere, ".type A = L {} ^.type B = L {} .type A <: number"},
		{api.ErrNone, "^.type A <: X .type B <: B"},
		{api.ErrNone, "^.type A = L {x: X} .type B <: B .decl r() .decl r()"},
		{api.ErrRing, "^.type B <: B .type A <: X"},
		{api.ErrRing, "^.type C <: B .type A <: X .type B <: B"},
		{api.ErrRing, ".decl r(x: X) .decl r() r(1, 2). ^.type B <: B"},
		{api.ErrThere, ".decl r() q(). ^.decl r(x: X)"},
		{api.ErrThere, "^.decl r(x: X, x: X)"},
		{api.ErrNone, "^.decl r(x: X) .decl r(x: X)"},
		{api.ErrNone, "q(). ^.decl r(x: X)"},
		{api.ErrThere, ".decl r() r(1). ^.decl r(x: number)"},
		{api.ErrType, ".decl r(x: number) r(1). r(^\"a\"). q() :- q()."},
	} {
		checks(t, c.why, c.text)
	}
}

// P12.2: Types with a Sub and with constructors, which no text has, are looked at by both.
func TestCheckNoText(t *testing.T) {
	ctor := func(name, field string) []api.Ctor {
		return []api.Ctor{{Name: name, Fields: []api.Field{{Name: "x", Type: field}}}}
	}
	both := func(sub, field string) api.Prog {
		return api.Prog{Types: []api.TypeDecl{{Name: "T", Ctors: ctor("L", "T"), At: 3}, {Name: "U", Sub: sub, Ctors: ctor("M", field), At: 5}}}
	}
	there := both("T", "T")
	there.Types[1].Ctors[0].Name = "L"
	for what, c := range map[string]struct {
		prog api.Prog
		want api.Fault
	}{
		"right":                 {both("T", "U"), api.Fault{}},
		"its Sub is none":       {both("X", "U"), api.Fault{Why: api.ErrNone, At: 5}},
		"its Field's is none":   {both("T", "X"), api.Fault{Why: api.ErrNone, At: 5}},
		"its Subs lead round":   {both("U", "T"), api.Fault{Why: api.ErrRing, At: 5}},
		"none ahead of round":   {both("U", "X"), api.Fault{Why: api.ErrNone, At: 5}},
		"a constructor's twice": {there, api.Fault{Why: api.ErrThere, At: 5}},
		"a Field of no type":    {both("T", ""), api.Fault{Why: api.ErrNone, At: 5}},
		"a Decl of no type":     {api.Prog{Decls: []api.Decl{{Cols: []api.Field{{}}, At: -7}}}, api.Fault{Why: api.ErrNone, At: -7}},
		"a type of no name":     {api.Prog{Types: []api.TypeDecl{{}}, Decls: []api.Decl{{Cols: []api.Field{{}}}}}, api.Fault{}},
		"no names twice":        {api.Prog{Types: []api.TypeDecl{{}, {At: 4}}}, api.Fault{Why: api.ErrThere, At: 4}},
		"no Decls' names twice": {api.Prog{Decls: []api.Decl{{}, {At: 4}}}, api.Fault{Why: api.ErrThere, At: 4}},
	} {
		if fault := Check(c.prog); fault != c.want {
			t.Errorf("%s: %v, want %v", what, fault, c.want)
		}
	}
}

// P12.2: the example of the document.
func TestExample(t *testing.T) {
	text := ".type A <: number .decl e(x: A) .decl q(x: number) "
	p := parsed(t, text+"q(x) :- e(x), q(x).")
	vars, fault := Infer(p, p.Clauses[0])
	if listed(vars) != "x A" || fault != (api.Fault{}) || Check(p) != (api.Fault{}) {
		t.Errorf("%s %v", listed(vars), fault)
	}
	checks(t, api.ErrType, text+"e(^x) :- q(x).")
}
