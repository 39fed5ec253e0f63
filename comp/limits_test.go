package comp

import (
	"math"
	"reflect"
	"slices"
	"strconv"
	"strings"
	"testing"

	"vestry/api"
)

// times: one thing again and again.
func times[T any](n int, x T) []T { return slices.Repeat([]T{x}, n) }

// numbered: things by numbers.
func numbered[T any](n int, of func(i int) T) []T {
	all := make([]T, n)
	for i := range all {
		all[i] = of(i)
	}
	return all
}

// name: a name of n bytes.
func name(n int) string { return strings.Repeat("n", n) }

// fault: Flatten answers this fault, and a program only without one.
func fault(t *testing.T, what string, p api.Prog, want api.Fault) {
	t.Helper()
	got, f := Flatten(p)
	if f != want || f.Why != api.OK && !reflect.DeepEqual(got, api.Prog{}) || f.Why == api.OK && !Flat(got) {
		t.Errorf("%s: %v, want %v", what, f, want)
	}
}

// withItems: a body with n items of all kinds.
func withItems(n int) api.Prog {
	var p api.Prog
	for i := range n {
		switch i % 5 {
		case 0:
			p.Types = append(p.Types, api.TypeDecl{})
		case 1:
			p.Decls = append(p.Decls, api.Decl{})
		case 2:
			p.Comps = append(p.Comps, api.Comp{Body: api.Prog{Inits: times(i, api.Init{})}})
		case 3:
			p.Inits = append(p.Inits, api.Init{})
		case 4:
			p.Clauses = append(p.Clauses, api.Clause{})
		}
	}
	return p
}

// P11.1: MaxRules items of a whole body, and one more, its own and those of its Bases.
func TestManyItems(t *testing.T) {
	for n, why := range map[int]api.Errno{95: api.OK, 96: api.OK, 97: api.ErrMany, 500: api.ErrMany} {
		wholeIs(t, why, api.Prog{Comps: []api.Comp{{Name: "C", Body: withItems(n)}}}, "C")
		wholeIs(t, why, api.Prog{Comps: []api.Comp{{Name: "C", Bases: []string{"B"}}, {Name: "B", Body: withItems(n)}}}, "C")
		wholeIs(t, why, api.Prog{Comps: []api.Comp{{Name: "C", Bases: []string{"B"}, Body: withItems(n - 7)}, {Name: "B", Body: withItems(7)}}}, "C")
		wholeIs(t, why, api.Prog{Comps: []api.Comp{{Name: "C", Bases: []string{"B", "B"}, Body: withItems(n - 8)}, {Name: "B", Body: withItems(4)}}}, "C")
	}
	for _, one := range []api.Prog{
		{Types: times(97, api.TypeDecl{})}, {Decls: times(97, api.Decl{})}, {Comps: times(97, api.Comp{})},
		{Inits: times(97, api.Init{})}, {Clauses: times(97, api.Clause{})},
	} {
		wholeIs(t, api.ErrMany, api.Prog{Comps: []api.Comp{{Name: "C", Body: one}}}, "C")
	}
}

// P11.1: a component within a body is one item, whatever it has.
func TestItemsWithin(t *testing.T) {
	inner := api.Comp{Body: withItems(200)}
	wholeIs(t, api.OK, api.Prog{Comps: []api.Comp{{Name: "C", Body: api.Prog{Comps: times(96, inner)}}}}, "C")
}

// P11.1: too many items are met where they come together: behind what came ahead of them, and ahead of the rest.
func TestItemsInTurn(t *testing.T) {
	full := api.Comp{Name: "F", Body: withItems(97)}
	half := api.Comp{Name: "H", Body: withItems(49)}
	for what, c := range map[string]struct {
		bases []string
		why   api.Errno
	}{
		"ahead of a Base that is none":   {[]string{"F", "X"}, api.ErrMany},
		"behind a Base that is none":     {[]string{"X", "F"}, api.ErrNone},
		"ahead of a ring":                {[]string{"F", "C"}, api.ErrMany},
		"behind a ring":                  {[]string{"C", "F"}, api.ErrRing},
		"two halves, then none":          {[]string{"H", "H", "X"}, api.ErrMany},
		"a half, then none, then a half": {[]string{"H", "X", "H"}, api.ErrNone},
	} {
		own := api.Comp{Name: "C", Bases: c.bases, Body: withItems(97)}
		if _, e := Whole(api.Prog{Comps: []api.Comp{own, full, half}}, "C"); e != c.why {
			t.Errorf("%s: %v, want %v", what, e, c.why)
		}
	}
}

// row: components C0, C1 and so on, each with the Bases and the Body that are told.
func row(n int, bases func(i int) []string, body func(i int) api.Prog) api.Prog {
	return api.Prog{Comps: numbered(n, func(i int) api.Comp {
		return api.Comp{Name: "C" + strconv.Itoa(i), Bases: bases(i), Body: body(i), At: i}
	})}
}

func empty(int) api.Prog { return api.Prog{} }

// next: the component behind this one, times n; the last one of all has none.
func next(last, n int) func(i int) []string {
	return func(i int) []string {
		if i == last {
			return nil
		}
		return times(n, "C"+strconv.Itoa(i+1))
	}
}

// P11.1: MaxRules bodies come together, and one more does not, each counted as often as it comes.
func TestManyBodies(t *testing.T) {
	for n, why := range map[int]api.Errno{1: api.OK, 95: api.OK, 96: api.OK, 97: api.ErrMany, 2000: api.ErrMany} {
		wholeIs(t, why, row(n, next(n-1, 1), empty), "C0")
		broad := api.Prog{Comps: []api.Comp{{Name: "C", Bases: times(n-1, "B")}, {Name: "B"}}}
		wholeIs(t, why, broad, "C")
		third := (n - 1) / 3
		mixed := api.Prog{Comps: []api.Comp{{Name: "C", Bases: append(times(third, "B"), times(n-1-3*third, "A")...)}, {Name: "B", Bases: []string{"A", "A"}}, {Name: "A"}}}
		wholeIs(t, why, mixed, "C")
	}
}

// P11.1: rows of empty components that double what is counted come to an end.
func TestDoubling(t *testing.T) {
	for n, why := range map[int]api.Errno{5: api.OK, 6: api.OK, 7: api.ErrMany, 60: api.ErrMany, 20000: api.ErrMany} {
		wholeIs(t, why, row(n, next(n-1, 2), empty), "C0")
	}
	ring := row(2000, func(i int) []string { return times(3, "C"+strconv.Itoa((i+1)%2000)) }, empty)
	wholeIs(t, api.ErrMany, ring, "C0")
	short := row(96, func(i int) []string { return times(3, "C"+strconv.Itoa((i+1)%96)) }, empty)
	wholeIs(t, api.ErrRing, short, "C0")
}

// P11.1: of a Base that would be one body too many, and that is none, or leads back, the error that is named first counts.
func TestBaseTooMany(t *testing.T) {
	for base, why := range map[string]api.Errno{"X": api.ErrNone, "C": api.ErrRing, "B": api.ErrMany} {
		wholeIs(t, why, api.Prog{Comps: []api.Comp{{Name: "C", Bases: append(times(95, "B"), base)}, {Name: "B"}}}, "C")
	}
	wholeIs(t, api.ErrMany, api.Prog{Comps: []api.Comp{{Name: "C", Bases: append(times(96, "B"), "X")}, {Name: "B"}}}, "C")
}

// P11.2: Whole's ErrMany is told at the Init.
func TestWholeAtInit(t *testing.T) {
	p := row(97, next(96, 1), empty)
	p.Inits = []api.Init{{Name: "a", Comp: "C1", At: 5}, {Name: "b", Comp: "C0", At: 7}}
	fault(t, "97 bodies", p, api.Fault{Why: api.ErrMany, At: 7})
	q := api.Prog{Comps: []api.Comp{{Name: "C", Body: api.Prog{Inits: times(97, api.Init{})}}}, Inits: []api.Init{{Name: "a", Comp: "C", At: 9}}}
	fault(t, "97 items", q, api.Fault{Why: api.ErrMany, At: 9})
}

// decls, clauses: so many of them.
func decls(n int) []api.Decl {
	return numbered(n, func(i int) api.Decl { return api.Decl{Name: "r" + strconv.Itoa(i)} })
}

func clauses(n int) []api.Clause { return times(n, api.Clause{Head: api.Atom{Rel: "p"}}) }

// P11.2: MaxRules Decls and Clauses of a flat program, and one more, p's own counted; the Init with which there are too many is told.
func TestManyInFlat(t *testing.T) {
	for _, c := range []struct {
		what                   string
		own, facts, dec, claus int // of p, and of C
		inits                  int
		at                     int // the Init that is told; -1: none
	}{
		{"all in one", 0, 0, 48, 48, 1, -1},
		{"no Inits", 100, 100, 0, 0, 0, -1},
		{"p has them", 48, 48, 0, 0, 96, -1},
		{"p has one more", 48, 49, 0, 0, 3, 0},
		{"96 and none more", 40, 40, 4, 4, 2, -1},
		{"96 and one more", 40, 41, 4, 4, 2, 1},
		{"Decls alone", 6, 0, 9, 0, 10, -1},
		{"Decls alone, and one more", 7, 0, 9, 0, 10, 9},
		{"Clauses alone", 0, 6, 0, 9, 10, -1},
		{"Clauses alone, and one more", 0, 7, 0, 9, 10, 9},
		{"far too many", 0, 0, 40, 40, 90, 1},
	} {
		p := api.Prog{
			Decls: decls(c.own), Clauses: clauses(c.facts),
			Comps: []api.Comp{{Name: "C", Body: api.Prog{Decls: decls(c.dec), Clauses: clauses(c.claus)}}},
			Inits: numbered(c.inits, func(i int) api.Init { return api.Init{Name: "i" + strconv.Itoa(i), Comp: "C", At: 100 + i} }),
		}
		want := api.Fault{}
		if c.at >= 0 {
			want = api.Fault{Why: api.ErrMany, At: 100 + c.at}
		}
		fault(t, c.what, p, want)
	}
}

// P11.2: the Init within an instance is told, if there are too many with it.
func TestManyWithin(t *testing.T) {
	for extra, want := range map[int]api.Fault{0: {}, 1: {Why: api.ErrMany, At: 33}} {
		fault(t, "within", api.Prog{
			Clauses: clauses(extra),
			Comps: []api.Comp{
				{Name: "C", Body: api.Prog{Decls: decls(40), Inits: []api.Init{{Name: "x", Comp: "E", At: 22}, {Name: "y", Comp: "D", At: 33}, {Name: "z", Comp: "E", At: 44}}}},
				{Name: "D", Body: api.Prog{Decls: decls(56)}},
				{Name: "E"},
			},
			Inits: []api.Init{{Name: "i", Comp: "C", At: 11}},
		}, want)
	}
}

// P11.2: MaxRules instances, and one more, those within one another counted as often as they come.
func TestManyInstances(t *testing.T) {
	flat := func(n int) api.Prog {
		return api.Prog{
			Comps: []api.Comp{{Name: "C"}},
			Inits: numbered(n, func(i int) api.Init { return api.Init{Name: "i" + strconv.Itoa(i), Comp: "C", At: i} }),
		}
	}
	fault(t, "96", flat(96), api.Fault{})
	fault(t, "97", flat(97), api.Fault{Why: api.ErrMany, At: 96})
	fault(t, "60000", flat(60000), api.Fault{Why: api.ErrMany, At: 96})
	deep := func(n int) api.Prog {
		p := row(n, func(int) []string { return nil }, func(i int) api.Prog {
			if i == n-1 {
				return api.Prog{}
			}
			return api.Prog{Inits: []api.Init{{Name: name(90), Comp: "C" + strconv.Itoa(i+1), At: 10 * i}}}
		})
		p.Inits = []api.Init{{Name: "d", Comp: "C0", At: 5}}
		return p
	}
	fault(t, "96 deep", deep(96), api.Fault{})
	fault(t, "97 deep", deep(97), api.Fault{Why: api.ErrMany, At: 950})
	fault(t, "9000 deep", deep(9000), api.Fault{Why: api.ErrMany, At: 950})
	double := row(60, func(int) []string { return nil }, func(i int) api.Prog {
		if i == 59 {
			return api.Prog{}
		}
		to := "C" + strconv.Itoa(i+1)
		return api.Prog{Inits: []api.Init{{Name: "a", Comp: to, At: i}, {Name: "b", Comp: to, At: 1000 + i}}}
	})
	double.Inits = []api.Init{{Name: "d", Comp: "C0", At: 5}}
	fault(t, "doubling", double, api.Fault{Why: api.ErrMany, At: doubleAt(96)})
}

// doubleAt: At of the instance number n of the doubling row, gone through by hand.
func doubleAt(n int) int {
	type open struct{ level, at int }
	stack := []open{{0, 5}}
	for {
		last := stack[len(stack)-1]
		stack = stack[:len(stack)-1]
		if n == 0 {
			return last.at
		}
		n--
		if last.level < 59 {
			stack = append(stack, open{last.level + 1, 1000 + last.level}, open{last.level + 1, last.level})
		}
	}
}

// P11.2: names of MaxName bytes, and of one more; the first Decl, then the first name in a Clause.
func TestLongNames(t *testing.T) {
	with := func(body api.Prog, prefix int) api.Prog {
		return api.Prog{Comps: []api.Comp{{Name: "C", Body: body}}, Inits: []api.Init{{Name: name(prefix), Comp: "C", At: 9}}}
	}
	decl := func(n, at int) api.Decl { return api.Decl{Name: name(n), At: at} }
	at := func(a int) api.Fault { return api.Fault{Why: api.ErrLong, At: a} }
	fault(t, "64", with(api.Prog{Decls: []api.Decl{decl(60, 1)}}, 3), api.Fault{})
	fault(t, "65", with(api.Prog{Decls: []api.Decl{decl(61, 1)}}, 3), at(1))
	fault(t, "the second", with(api.Prog{Decls: []api.Decl{decl(60, 1), decl(61, 2), decl(62, 3)}}, 3), at(2))
	fault(t, "no name behind 64", with(api.Prog{Decls: []api.Decl{decl(0, 1)}}, 63), api.Fault{})
	fault(t, "no name behind 65", with(api.Prog{Decls: []api.Decl{decl(0, 1)}}, 64), at(1))
	fault(t, "a great prefix", with(api.Prog{Decls: []api.Decl{decl(0, 1)}}, 1<<20), at(1))
	fault(t, "a great prefix of nothing", with(api.Prog{}, 1<<20), api.Fault{})
	fault(t, "a great name", with(api.Prog{Decls: []api.Decl{decl(1<<20, 4)}}, 1), at(4))

	own := func(rel string, a int) api.Atom { return api.Atom{Rel: rel, At: a} }
	lit := func(kind int, a api.Atom, at int) api.Lit { return api.Lit{Kind: kind, Atom: a, At: at} }
	clause := func(body ...api.Lit) api.Prog {
		return api.Prog{Decls: []api.Decl{decl(1, 1)}, Clauses: []api.Clause{{Head: own("h", 2), Body: body, At: 3}}}
	}
	fits, more := "n."+name(58), "n."+name(59)
	fault(t, "a name that fits", with(clause(lit(api.LAtom, own(fits, 5), 4)), 3), api.Fault{})
	fault(t, "an atom", with(clause(lit(api.LAtom, own(fits, 5), 4), lit(api.LAtom, own(more, 7), 6)), 3), at(7))
	fault(t, "a not", with(clause(lit(api.LNot, own(more, 7), 6), lit(api.LAtom, own(more, 9), 8)), 3), at(7))
	fault(t, "a name that the body has not", with(clause(lit(api.LAtom, own("m."+name(62), 7), 6)), 3), api.Fault{})
	fault(t, "a comparison has no atom", with(clause(lit(api.LCmp, own(more, 7), 6)), 3), api.Fault{})
	head := api.Prog{Decls: []api.Decl{decl(1, 1)}, Clauses: []api.Clause{{Head: own(more, 2), Body: []api.Lit{lit(api.LAtom, own(more, 7), 6)}}}}
	fault(t, "the head first", with(head, 3), at(2))
	head.Decls = append(head.Decls, decl(61, 8))
	fault(t, "Decls ahead of Clauses", with(head, 3), at(8))
}

// P11.2: in what is p's own no name is too long, nor in a component without an instance.
func TestLongNamesOfNone(t *testing.T) {
	p := api.Prog{
		Decls:   []api.Decl{{Name: name(99)}},
		Clauses: []api.Clause{{Head: api.Atom{Rel: name(99)}}},
		Comps:   []api.Comp{{Name: "C"}, {Name: "D", Body: api.Prog{Decls: []api.Decl{{Name: name(99)}}}}},
		Inits:   []api.Init{{Name: "d", Comp: "C"}},
	}
	fault(t, "p's own", p, api.Fault{})
}

// fourItems: bodies of four items: one that is right, one with a Decl at 1 that would be too long, and one with such a name in a Clause.
func fourItems() (right, longDecl, longName api.Prog) {
	right = api.Prog{Decls: decls(2), Clauses: clauses(2)}
	longDecl = api.Prog{Decls: append(decls(3), api.Decl{Name: name(64), At: 1})}
	not := api.Lit{Kind: api.LNot, Atom: api.Atom{Rel: "r1." + name(60), At: 1}}
	longName = api.Prog{Decls: decls(2), Clauses: append(clauses(1), api.Clause{Head: api.Atom{Rel: "p"}, Body: []api.Lit{not}})}
	return right, longDecl, longName
}

// P11.2: of one Init, too many instances are told ahead of a name that is too long, and that ahead of too many Decls and Clauses.
func TestManyAndLong(t *testing.T) {
	none, many, long := api.Fault{}, api.Fault{Why: api.ErrMany, At: 2}, api.Fault{Why: api.ErrLong, At: 1}
	right, longDecl, longName := fourItems()
	for _, c := range []struct {
		what       string
		body       api.Prog
		own, ahead int // Clauses of p, and Inits ahead of the body's
		want       api.Fault
	}{
		{"nothing", right, 92, 95, none},
		{"a Decl", longDecl, 92, 95, long},
		{"a name in a Clause", longName, 92, 95, long},
		{"items", right, 93, 95, many},
		{"items and a Decl", longDecl, 93, 95, long},
		{"items and a name in a Clause", longName, 93, 95, long},
		{"p's own items", right, 97, 0, many},
		{"p's own items and a Decl", longDecl, 97, 0, long},
		{"p's own items and a name in a Clause", longName, 97, 0, long},
		{"instances", right, 92, 96, many},
		{"instances and a Decl", longDecl, 92, 96, many},
		{"instances and a name in a Clause", longName, 92, 96, many},
		{"instances, items and a Decl", longDecl, 93, 96, many},
		{"instances, items and a name in a Clause", longName, 93, 96, many},
	} {
		p := api.Prog{Clauses: clauses(c.own), Comps: []api.Comp{{Name: "C"}, {Name: "L", Body: c.body}}}
		p.Inits = numbered(c.ahead, func(i int) api.Init { return api.Init{Name: "i" + strconv.Itoa(i), Comp: "C"} })
		p.Inits = append(p.Inits, api.Init{Name: "a", Comp: "L", At: 2})
		fault(t, c.what, p, c.want)
	}
}

// P11.2: of several Inits the first counts: too many Decls and Clauses with it are told ahead of a name that is too long in one within it, or behind it.
func TestManyThenLong(t *testing.T) {
	right, longDecl, longName := fourItems()
	outer := right
	outer.Inits = []api.Init{{Name: "a", Comp: "L", At: 7}}
	for _, body := range []api.Prog{longDecl, longName} {
		comps := []api.Comp{{Name: "R", Body: right}, {Name: "L", Body: body}, {Name: "O", Body: outer}}
		for n, want := range map[int]api.Fault{92: {Why: api.ErrLong, At: 1}, 93: {Why: api.ErrMany, At: 5}} {
			within := []api.Init{{Name: "b", Comp: "O", At: 5}}
			fault(t, "within", api.Prog{Clauses: clauses(n), Comps: comps, Inits: within}, want)
			behind := []api.Init{{Name: "b", Comp: "R", At: 5}, {Name: "a", Comp: "L", At: 7}}
			fault(t, "behind", api.Prog{Clauses: clauses(n), Comps: comps, Inits: behind}, want)
		}
	}
}

// P11.2: what is told of an Init ahead of ErrMany.
func TestAheadOfMany(t *testing.T) {
	full := func(last api.Init) api.Prog {
		p := api.Prog{Comps: []api.Comp{{Name: "C"}}}
		p.Inits = numbered(96, func(i int) api.Init { return api.Init{Name: "i" + strconv.Itoa(i), Comp: "C"} })
		last.At = 7
		p.Inits = append(p.Inits, last)
		return p
	}
	fault(t, "the name is there", full(api.Init{Name: "i3", Comp: "X"}), api.Fault{Why: api.ErrThere, At: 7})
	fault(t, "no component", full(api.Init{Name: "x", Comp: "X"}), api.Fault{Why: api.ErrNone, At: 7})
	fault(t, "one more", full(api.Init{Name: "x", Comp: "C"}), api.Fault{Why: api.ErrMany, At: 7})
	ring := row(96, func(int) []string { return nil }, func(i int) api.Prog {
		return api.Prog{Inits: []api.Init{{Name: "i", Comp: "C" + strconv.Itoa((i+1)%96), At: 10 * i}}}
	})
	ring.Inits = []api.Init{{Name: "d", Comp: "C0"}}
	fault(t, "a ring of 96", ring, api.Fault{Why: api.ErrRing, At: 950})
}

// R1, R6: programs that no text is read as.
func TestNoText(t *testing.T) {
	fault(t, "names that are none", api.Prog{Comps: []api.Comp{{}}, Inits: []api.Init{{}}}, api.Fault{})
	fault(t, "the empty name twice", api.Prog{Comps: []api.Comp{{}, {At: -4}}}, api.Fault{Why: api.ErrThere, At: -4})
	fault(t, "a place below 0", api.Prog{Inits: []api.Init{{Comp: "X", At: math.MinInt64}}}, api.Fault{Why: api.ErrNone, At: math.MinInt64})
	p := api.Prog{
		Comps: []api.Comp{{Name: "C", Body: api.Prog{
			Decls:   []api.Decl{{}, {Name: "a.b"}, {Name: "."}},
			Clauses: []api.Clause{{Head: api.Atom{}, Body: []api.Lit{{}, {Kind: 9, Atom: api.Atom{Rel: ".x"}}, {Kind: api.LAtom, Atom: api.Atom{Rel: ".x"}}, {Kind: api.LNot, Atom: api.Atom{Rel: "a.b"}}}}},
		}}},
		Inits: []api.Init{{Name: "i.j", Comp: "C"}},
	}
	got, f := Flatten(p)
	if f != (api.Fault{}) {
		t.Fatal(f)
	}
	names := []string{got.Decls[0].Name, got.Decls[1].Name, got.Decls[2].Name, got.Clauses[0].Head.Rel}
	for _, l := range got.Clauses[0].Body {
		names = append(names, l.Atom.Rel)
	}
	if want := []string{"i.j.", "i.j.a.b", "i.j..", "i.j.", "", ".x", "i.j..x", "a.b"}; !slices.Equal(names, want) {
		t.Errorf("%q, want %q", names, want)
	}
}

// nested: an expression within which so many others lie.
func nested(n int) api.Expr {
	var x api.Expr
	for range n {
		x = api.Expr{Kind: api.ECon, Kids: []api.Expr{x}}
	}
	return x
}

// R1: however deep or broad a program is, all calls end.
func TestDeepAndBroad(t *testing.T) {
	const n = 1 << 16
	deepComp := api.Comp{Name: "C"}
	for range n / 2 {
		deepComp = api.Comp{Name: "C", Body: api.Prog{Comps: []api.Comp{deepComp}}}
	}
	wholeIs(t, api.OK, api.Prog{Comps: []api.Comp{deepComp}}, "C")
	fault(t, "components within one another", api.Prog{Comps: []api.Comp{deepComp}}, api.Fault{Why: api.ErrArg})
	deepClause := api.Clause{Head: api.Atom{Args: []api.Expr{nested(n)}}}
	fault(t, "expressions within one another", api.Prog{Clauses: []api.Clause{deepClause}}, api.Fault{})
	inComp := api.Prog{Comps: []api.Comp{{Name: "C", Body: api.Prog{Clauses: []api.Clause{deepClause}}}}, Inits: []api.Init{{Name: "d", Comp: "C"}}}
	fault(t, "expressions in an instance", inComp, api.Fault{})
	wholeIs(t, api.OK, inComp, "C")
	broad := row(n, next(n-1, 1), empty)
	wholeIs(t, api.ErrMany, broad, "C0")
	wholeIs(t, api.OK, broad, "C"+strconv.Itoa(n-90))
	broad.Inits = []api.Init{{Name: "d", Comp: "C" + strconv.Itoa(n-1)}}
	fault(t, "many components", broad, api.Fault{})
	fault(t, "many Decls and Clauses", api.Prog{Decls: decls(n / 2), Clauses: clauses(n / 2)}, api.Fault{})
	bases := api.Prog{Comps: []api.Comp{{Name: "C", Bases: times(n, "C")}, {Name: "D", Bases: times(n, "E")}, {Name: "E"}}}
	wholeIs(t, api.ErrRing, bases, "C")
	wholeIs(t, api.ErrMany, bases, "D")
	body := api.Prog{Comps: []api.Comp{{Name: "C", Body: api.Prog{Clauses: clauses(n)}}}, Inits: []api.Init{{Name: "d", Comp: "C", At: 3}}}
	fault(t, "many Clauses of a body", body, api.Fault{Why: api.ErrMany, At: 3})
	for i := range 96 {
		name := "D" + strconv.Itoa(i)
		body.Comps = append(body.Comps, api.Comp{Name: name, Body: api.Prog{Inits: numbered(96, func(k int) api.Init {
			return api.Init{Name: "i" + strconv.Itoa(k), Comp: "D" + strconv.Itoa(min(i+1, 95)), At: 5}
		})}})
	}
	body.Inits = []api.Init{{Name: "d", Comp: "D0", At: 3}}
	fault(t, "instances that multiply", body, api.Fault{Why: api.ErrRing, At: 5})
}
