package comp

import (
	"reflect"
	"strings"
	"testing"

	"vestry/api"
	"vestry/show"
	"vestry/syn"
)

// parsed: the program of a text.
func parsed(t *testing.T, text string) api.Prog {
	t.Helper()
	p, fault := syn.Parse(text)
	if fault.Why != api.OK {
		t.Fatalf("%q: %v", text, fault)
	}
	return p
}

// laid: a text as layer 10 lays it out, so that answers can be told apart from what is wanted by their texts. Its names may have points where a text's may not.
func laid(t *testing.T, p api.Prog) string {
	t.Helper()
	all := copied(p)
	points := strings.NewReplacer(".", "__")
	for i := range all.Decls {
		all.Decls[i].Name = points.Replace(all.Decls[i].Name)
	}
	text, e := show.Show(all)
	if e != api.OK {
		t.Fatalf("%v of %+v", e, p)
	}
	return text
}

// flattens: a text's flat program has the text that is wanted (where a `__` in a Decl's name stands for a point).
func flattens(t *testing.T, text, want string) {
	t.Helper()
	got, fault := Flatten(parsed(t, text))
	if fault != (api.Fault{}) {
		t.Errorf("%s: %v", text, fault)
		return
	}
	laidOut, wrong := show.Format(want)
	if wrong != (api.Fault{}) {
		t.Fatalf("%s: %v", want, wrong)
	}
	if have := laid(t, got); have != laidOut {
		t.Errorf("%s:\n%swant\n%s", text, have, laidOut)
	}
	if !Flat(got) {
		t.Errorf("%s: not flat", text)
	}
}

// faulty: Flatten answers this error at the place that the mark ^ has in the text, and no program.
func faulty(t *testing.T, why api.Errno, marked string) {
	t.Helper()
	at := strings.Index(marked, "^")
	got, fault := Flatten(parsed(t, strings.Replace(marked, "^", "", 1)))
	if fault != (api.Fault{Why: why, At: at}) || !reflect.DeepEqual(got, api.Prog{}) {
		t.Errorf("%s: %v, want %v at %d, and no program: %+v", marked, fault, why, at, got)
	}
}

// whole: the whole body has the text that is wanted.
func whole(t *testing.T, text, name, want string) {
	t.Helper()
	got, e := Whole(parsed(t, text), name)
	if e != api.OK || !syn.Same(got, parsed(t, want)) {
		t.Errorf("%s of %s: %+v %v, want %s", name, text, got, e, want)
	}
}

// wholeIs: Whole answers this error, and no program.
func wholeIs(t *testing.T, why api.Errno, p api.Prog, name string) {
	t.Helper()
	if got, e := Whole(p, name); e != why || e != api.OK && !reflect.DeepEqual(got, api.Prog{}) {
		t.Errorf("%s: %v, want %v; %+v", name, e, why, got)
	}
}

// P11.1: a program is flat if it has no components and no instances, whatever else it has.
func TestFlat(t *testing.T) {
	for text, want := range map[string]bool{
		"":                                     true,
		"p(1).":                                true,
		".type A <: number":                    true,
		".decl a.b(x: number)":                 true,
		".comp C { }":                          false,
		".init d = C":                          false,
		".comp C { } .init d = C":              false,
		".decl p(x: number) p(1). .comp C { }": false,
	} {
		p, _ := syn.Parse(text)
		if got := Flat(p); got != want {
			t.Errorf("%s: %v, want %v", text, got, want)
		}
	}
	for _, p := range []api.Prog{{Comps: []api.Comp{}}, {Inits: []api.Init{}}, {}} {
		if !Flat(p) {
			t.Errorf("%+v is flat", p)
		}
	}
}

// P11.1: a whole body: the Bases' whole bodies in order, then its own, kind by kind.
func TestWhole(t *testing.T) {
	for _, c := range []struct{ text, name, want string }{
		{".comp C { }", "C", ""},
		{".comp C { .decl r(x: number) r(1). .init i = D }", "C", ".decl r(x: number) .init i = D r(1)."},
		{".comp B { b(1). .decl b(x: number) } .comp C : B { .decl c(y: number) c(2). }", "C", ".decl b(x: number) .decl c(y: number) b(1). c(2)."},
		{".comp C : B { .decl c(y: number) c(2). } .comp B { b(1). .decl b(x: number) }", "C", ".decl b(x: number) .decl c(y: number) b(1). c(2)."},
		{".comp A { a(). } .comp B { b(). } .comp C : B, A { c(). }", "C", "b(). a(). c()."},
		{".comp A { a(). } .comp C : A, A { c(). }", "C", "a(). a(). c()."},
		{".comp A { a(). } .comp B : A { b(). } .comp C : B { c(). }", "C", "a(). b(). c()."},
		{".comp A { a(). } .comp B : A { b(). } .comp C : A, B, A { c(). }", "C", "a(). a(). b(). a(). c()."},
		{".comp A { a(). } .comp B : A { b(). } .comp C : B { c(). }", "B", "a(). b()."},
		{".comp B { .init i = X .type T <: number .comp N { n(). } } .comp C : B { .type S <: T .init j = X .comp M { } }", "C", ".type T <: number .type S <: T .comp N { n(). } .comp M { } .init i = X .init j = X"},
		{".comp C { } p(). .init d = C .decl e(x: number) .type T <: number", "C", ""},
		{".comp C { c(1). } .comp C { c(2). }", "C", "c(1)."},
		{".comp B { b(1). } .comp C : B { } .comp B { b(2). }", "C", "b(1)."},
		{".comp C { c(1). } .comp C : D { c(2). }", "C", "c(1)."},
		{".comp A : A { } .comp C { c(). }", "C", "c()."},
	} {
		whole(t, c.text, c.name, c.want)
	}
}

// P11.1: what stands in a whole body is at the places that it had.
func TestWholePlaces(t *testing.T) {
	text := ".comp B { .decl b(x: number) } .comp C : B, B { .init i = X c(x) :- !b(x), x < 1 + 2. }"
	got, _ := Whole(parsed(t, text), "C")
	at := func(piece string) int { return strings.Index(text, piece) }
	c := got.Clauses[0]
	for what, pair := range map[string][2]int{
		"decl":   {got.Decls[0].At, at(".decl")},
		"again":  {got.Decls[1].At, at(".decl")},
		"init":   {got.Inits[0].At, at(".init")},
		"clause": {c.At, at("c(x)")},
		"head":   {c.Head.At, at("c(x)")},
		"not":    {c.Body[0].At, at("!b")},
		"atom":   {c.Body[0].Atom.At, at("!b") + 1},
		"left":   {c.Body[1].L.At, at("x <")},
		"kid":    {c.Body[1].R.Kids[1].At, at("2.")},
	} {
		if pair[0] != pair[1] {
			t.Errorf("%s is at %d, want %d", what, pair[0], pair[1])
		}
	}
}

// P11.1: no such component, rings, and Bases that are none, in the order in which they are met.
func TestWholeErrors(t *testing.T) {
	for _, c := range []struct {
		text, name string
		why        api.Errno
	}{
		{"", "C", api.ErrNone},
		{"", "", api.ErrNone},
		{".comp C { .comp D { } }", "D", api.ErrNone},
		{".comp C { }", "c", api.ErrNone},
		{".init C = C", "C", api.ErrNone},
		{".comp C : D { }", "C", api.ErrNone},
		{".comp C : D.E { } .comp D { .comp E { } }", "C", api.ErrNone},
		{".comp C : D { } .comp D : E { }", "C", api.ErrNone},
		{".comp C : C { }", "C", api.ErrRing},
		{".comp C : D { } .comp D : C { }", "C", api.ErrRing},
		{".comp C : D { } .comp D : C { }", "D", api.ErrRing},
		{".comp C : D { } .comp D : D { }", "C", api.ErrRing},
		{".comp C : D { } .comp D : E { } .comp E : D { }", "C", api.ErrRing},
		{".comp C : D, E { } .comp D : E { } .comp E { }", "C", api.OK},
		{".comp C : X, C { }", "C", api.ErrNone},
		{".comp C : C, X { }", "C", api.ErrRing},
		{".comp C : D, X { } .comp D : C { }", "C", api.ErrRing},
		{".comp C : D, C { } .comp D : X { }", "C", api.ErrNone},
		{".comp C { } .comp C : C { }", "C", api.OK},
		{".comp C : D { } .comp D { } .comp D : C { }", "C", api.OK},
	} {
		wholeIs(t, c.why, parsed(t, c.text), c.name)
	}
}

// P11.2: flat programs, item by item.
func TestFlatten(t *testing.T) {
	for _, c := range [][2]string{
		{"", ""},
		{"p(x) :- e(x).", "p(x) :- e(x)."},
		{".comp C { .decl r(x: number) r(x) :- e(x). }", ""},
		{".comp C { .decl r(x: number) r(x) :- e(x). } .init d = C", ".decl d__r(x: number) d.r(x) :- e(x)."},
		{".comp C { .decl r(x: number, y: T) input output .decl s() output } .init d = C", ".decl d__r(x: number, y: T) input output .decl d__s() output"},
		{".comp W { .decl r(x: number) r(x) :- e(x, _). } .init a = W", ".decl a__r(x: number) a.r(x) :- e(x, _)."},
		{".comp C { } .init d = C .init e = C", ""},
		{".comp C { .decl r() r(). } .init d = C .init e = C", ".decl d__r() .decl e__r() d.r(). e.r()."},
		{".init d = C .type T = A {} .decl p() p(). .comp C { .decl r() r(). } .decl q() q().", ".type T = A {} .decl p() .decl q() .decl d__r() p(). q(). d.r()."},
		{".type T <: number .type S = A {t: T} | B {}", ".type T <: number .type S = A {t: T} | B {}"},
		{".comp B { .decl b() b(). } .comp C : B { .decl c() c() :- b(), d(). } .init i = C", ".decl i__b() .decl i__c() i.b(). i.c() :- i.b(), d()."},
		{".comp B { b() :- c(). } .comp C : B { .decl c() } .init i = C", ".decl i__c() b() :- i.c()."},
		{".comp B { .decl b() b(). } .comp C : B, B { b(). } .init i = C", ".decl i__b() .decl i__b() i.b(). i.b(). i.b()."},
		{".comp D { .decl r() r(). } .comp C { .init i = D .decl s() s() :- i.r(). } .init o = C", ".decl o__s() .decl o__i__r() o.s() :- o.i.r(). o.i.r()."},
		{".comp D { .decl r() r() :- s(), i.r(), o.r(). } .comp C { .decl s() .init i = D } .init o = C", ".decl o__s() .decl o__i__r() o.i.r() :- s(), i.r(), o.r()."},
		{".comp E { .decl e() } .comp D { .init y = E .decl d() } .comp C { .init a = D .init b = E .decl c() } .init i = C .init j = E", ".decl i__c() .decl i__a__d() .decl i__a__y__e() .decl i__b__e() .decl j__e()"},
		{".comp E { e(). } .comp D { .init y = E d(). } .comp C { .init a = D .init b = E c(). } .init i = C .init j = E r().", "r(). c(). d(). e(). e(). e()."},
		{".comp B { .init i = D } .comp C : B { .init j = D } .comp D { .decl d() } .init c = C", ".decl c__i__d() .decl c__j__d()"},
		{".comp C { .decl r() r() :- r.s(), r.s.t(), s.r(), rr(), R(), i(), i.i(), i.r.x(). .init i = D } .comp D { } .init d = C", ".decl d__r() d.r() :- d.r.s(), d.r.s.t(), s.r(), rr(), R(), d.i(), d.i.i(), d.i.r.x()."},
		{".comp C { .decl r(x: r) r(r) :- !r(r), e(r, \"r\", $r(r, $s())), r = r + 1, !e(_). .decl s() } .init d = C", ".decl d__r(x: r) .decl d__s() d.r(r) :- !d.r(r), e(r, \"r\", $r(r, $s())), r = r + 1, !e(_)."},
		{".comp C { .decl r(r: number) r(1) :- x(r). } .init r = C", ".decl r__r(r: number) r.r(1) :- x(r)."},
		{".comp C { .decl d() d() :- d.d(). } .init d = C d.d() :- d().", ".decl d__d() d.d() :- d(). d.d() :- d.d.d()."},
		{".comp C { .decl C() C() :- D(). } .comp D { } .init i = C C().", ".decl i__C() C(). i.C() :- D()."},
		{".comp X : X { } .comp Y : N { } .comp Z { .init z = Z } .comp C { .decl c() } .init i = C", ".decl i__c()"},
		{".decl r() .comp C { .decl r() } .init d = C r() :- d.r().", ".decl r() .decl d__r() r() :- d.r()."},
		{".decl r() .decl r() .comp C { .decl s() .decl s() } .init d = C", ".decl r() .decl r() .decl d__s() .decl d__s()"},
		{".decl i() .comp C { .decl d() .init i = E } .comp E { .init d = F } .comp F { .decl i() } .init d = C", ".decl i() .decl d__d() .decl d__i__d__i()"},
	} {
		flattens(t, c[0], c[1])
	}
}

// P11.2: all At of a flat program are what they were.
func TestPlaces(t *testing.T) {
	text := ".comp B { .decl b(x: number) } .comp C : B { .init i = B c(x) :- !b(x), i.b(x), x < 1 + 2. } .type T <: number .init d = C .init e = B d(0)."
	got, fault := Flatten(parsed(t, text))
	if fault.Why != api.OK {
		t.Fatal(fault)
	}
	at := func(piece string) int { return strings.Index(text, piece) }
	c := got.Clauses[1]
	for what, pair := range map[string][2]int{
		"type":   {got.Types[0].At, at(".type")},
		"d.b":    {got.Decls[0].At, at(".decl")},
		"d.i.b":  {got.Decls[1].At, at(".decl")},
		"e.b":    {got.Decls[2].At, at(".decl")},
		"p":      {got.Clauses[0].At, at("d(0)")},
		"clause": {c.At, at("c(x)")},
		"head":   {c.Head.At, at("c(x)")},
		"arg":    {c.Head.Args[0].At, at("c(x)") + 2},
		"not":    {c.Body[0].At, at("!b")},
		"atom":   {c.Body[0].Atom.At, at("!b") + 1},
		"second": {c.Body[1].Atom.At, at("i.b")},
		"lit":    {c.Body[2].At, at("x <")},
		"kid":    {c.Body[2].R.Kids[1].At, at("2.")},
	} {
		if pair[0] != pair[1] {
			t.Errorf("%s is at %d, want %d", what, pair[0], pair[1])
		}
	}
}

// P11.2: each error at its place.
func TestFaults(t *testing.T) {
	for _, c := range []struct {
		why    api.Errno
		marked string
	}{
		{api.ErrThere, ".comp C { } ^.comp C { }"},
		{api.ErrThere, ".comp C { } .comp D { } ^.comp D { } .comp C { }"},
		{api.ErrThere, ".comp C { } .comp D { } ^.comp C { } .comp D { }"},
		{api.ErrArg, ".comp C { ^.type T <: number }"},
		{api.ErrArg, ".comp C { ^.comp D { } }"},
		{api.ErrArg, ".comp C { .comp D { } ^.type T <: number }"},
		{api.ErrArg, ".comp C { ^.type T <: number .type S <: number .comp D { } }"},
		{api.ErrArg, ".comp C { } .comp D { ^.comp E { .type T <: number } .comp F { } }"},
		{api.ErrArg, ".comp D { ^.comp E { } } .comp C { .type T <: number }"},
		{api.ErrArg, ".comp C { p(). ^.comp C { } } .init d = C"},
		{api.ErrThere, ".comp C { } .init d = C ^.init d = C"},
		{api.ErrThere, ".comp C { } ^.init d = C .decl d()"},
		{api.ErrThere, ".comp C { } .init a = C .init b = C ^.init a = C .init b = C"},
		{api.ErrThere, ".comp D { } .comp C { .init a = D ^.init a = D } .init d = C"},
		{api.ErrThere, ".comp D { } .comp C { ^.init a = D .decl a() } .init d = C"},
		{api.ErrThere, ".comp D { } .comp B { .decl a() } .comp C : B { ^.init a = D } .init d = C"},
		{api.ErrThere, ".comp D { } .comp B { ^.init a = D } .comp C : B { .decl a() } .init d = C"},
		{api.ErrThere, ".comp D { } .comp B { .init a = D } .comp C : B { ^.init a = D } .init d = C"},
		{api.ErrThere, ".comp D { } .comp B { ^.init a = D } .comp C : B, B { } .init d = C"},
		{api.ErrNone, "^.init d = C"},
		{api.ErrNone, ".comp C { } ^.init d = C.C"},
		{api.ErrNone, ".comp C { ^.init e = D } .init d = C"},
		{api.ErrNone, ".comp C : D { } ^.init d = C"},
		{api.ErrNone, ".comp C { } .init a = C ^.init b = D .init c = E"},
		{api.ErrRing, ".comp C : C { } ^.init d = C"},
		{api.ErrRing, ".comp C : D { } .comp D : C { } ^.init d = D"},
		{api.ErrRing, ".comp C { ^.init i = C } .init d = C"},
		{api.ErrRing, ".comp C { .init i = D } .comp D { ^.init j = C } .init d = C"},
		{api.ErrRing, ".comp C { .init i = D } .comp D { ^.init j = D } .init d = C"},
		{api.ErrRing, ".comp C { .init i = D } .comp D { .init j = E } .comp E { ^.init k = D } .init d = C"},
		{api.ErrRing, ".comp B { ^.init i = C } .comp C : B { } .init d = C"},
		{api.ErrRing, ".comp B { ^.init i = B } .comp C : B { } .init d = C"},
		{api.ErrRing, ".comp C { ^.init i = D } .comp D : D { } .init d = C"},
		{api.ErrRing, ".comp C { } .comp D { ^.init i = D } .init a = C .init b = C .init d = D"},
	} {
		faulty(t, c.why, c.marked)
	}
}

// P11.2: of several errors the first that is named counts, and of Inits the first as instances are made.
func TestWhichFault(t *testing.T) {
	long, short := strings.Repeat("n", 63), strings.Repeat("n", 61)
	for _, c := range []struct {
		why    api.Errno
		marked string
	}{
		{api.ErrThere, ".comp C { .type T <: number } .init d = D ^.comp C { .comp D { } }"},
		{api.ErrArg, ".init d = D .comp C { ^.comp D { } }"},
		{api.ErrArg, ".comp D { } .init d = D .init d = D .comp C { ^.type T <: number }"},
		{api.ErrThere, ".comp C { } .init d = C ^.init d = D"},
		{api.ErrThere, ".comp C { .init i = D ^.init i = C } .comp D { } .init d = C"},
		{api.ErrThere, ".comp C { } .comp D { .init j = X } .init d = C ^.init d = D"},
		{api.ErrNone, ".comp C { } ^.init d = D .init d = C"},
		{api.ErrNone, ".comp C { ^.init i = X .init i = C } .init d = C .init d = C"},
		{api.ErrNone, ".comp C { .init i = D } .comp D { ^.init j = X } .init d = C .init d = C"},
		{api.ErrLong, ".comp C { ^.decl " + long + "() .init i = X } .init d = C"},
		{api.ErrLong, ".comp C { .init i = C ^.decl " + long + "() } .init d = C .init d = C"},
		{api.ErrLong, ".comp C { ^" + long + "() :- x(). .init " + long + " = X } .init d = C"},
		{api.ErrLong, ".comp C { x() :- y(), !^" + short + ".a(). .init " + short + " = X } .init d = C"},
		{api.ErrLong, ".comp C { x() :- x < 1, ^" + short + ".b(), " + short + ".a(). .init " + short + " = X } .init d = C"},
		{api.ErrLong, ".comp C { " + long + "() :- " + long + "(). ^.decl " + long + "() .decl " + long + "a() } .init d = C"},
		{api.ErrNone, ".comp C { x() :- " + short + "(). .decl " + short + "() ^.init a = X } .init d = C"},
		{api.ErrNone, ".comp C { " + long + "() :- !" + long + "(). ^.init a = X } .init d = C"},
		{api.ErrNone, ".comp C { .decl " + short + "() } ^.init a = X .init dd = C"},
		{api.ErrLong, ".comp C { ^.decl " + short + "() } .init a = C .init ddd = C .init e = X"},
	} {
		faulty(t, c.why, c.marked)
	}
}
