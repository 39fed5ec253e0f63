package rules

import (
	"math/rand"
	"reflect"
	"slices"
	"strconv"
	"testing"

	"vestry/api"
	"vestry/types"
)

// The document's words, one by one, with names alone.

// pairs: which relation, the first one, hangs on which.
type pairs map[[2]string]bool

func wantPairs(p api.Prog) pairs {
	hung := pairs{}
	for _, c := range p.Clauses {
		for _, l := range c.Body {
			if l.Kind == api.LAtom || l.Kind == api.LNot {
				hung[[2]string{c.Head.Rel, l.Atom.Rel}] = true
			}
		}
	}
	all := names(p)
	for _, between := range all {
		for _, a := range all {
			for _, b := range all {
				if hung.hangs(a, between) && hung.hangs(between, b) {
					hung[[2]string{a, b}] = true
				}
			}
		}
	}
	return hung
}

func (h pairs) hangs(a, b string) bool { return h[[2]string{a, b}] }

// names: those of a program's Decls and Clauses, in order, each once.
func names(p api.Prog) []string {
	var all []string
	add := func(name string) {
		if !slices.Contains(all, name) {
			all = append(all, name)
		}
	}
	for _, d := range p.Decls {
		add(d.Name)
	}
	for _, c := range p.Clauses {
		add(c.Head.Rel)
		for _, l := range c.Body {
			add(l.Atom.Rel)
		}
	}
	return all
}

// stratum: a relation with all those that it hangs on and that hang on it, in the order of the names.
func (h pairs) stratum(of string, names []string) []string {
	var row []string
	for _, name := range names {
		if name == of || h.hangs(of, name) && h.hangs(name, of) {
			row = append(row, name)
		}
	}
	return row
}

func (h pairs) recursive(c api.Clause, names []string) bool {
	row := h.stratum(c.Head.Rel, names)
	for _, l := range c.Body {
		if l.Kind != api.LAtom || !slices.Contains(row, l.Atom.Rel) {
			continue
		}
		if l.Atom.Rel != c.Head.Rel || h.hangs(c.Head.Rel, c.Head.Rel) {
			return true
		}
	}
	return false
}

// wantGiver: the Lit that gives a variable its type: that with which layer 12 first tells one.
func wantGiver(p api.Prog, body []api.Lit, name string) api.Lit {
	p.Decls = append(slices.Clone(p.Decls), api.Decl{Name: "a head without columns"})
	for i, l := range body {
		vars, _ := types.Infer(p, api.Clause{Head: api.Atom{Rel: "a head without columns"}, Body: body[:i+1]})
		if slices.ContainsFunc(vars, func(v api.Field) bool { return v.Name == name }) {
			return l
		}
	}
	return api.Lit{}
}

func wantMade(p api.Prog, body []api.Lit, x api.Expr) bool {
	if x.Kind == api.EOp || x.Kind == api.ECon {
		return true
	}
	if x.Kind != api.EVar {
		return false
	}
	giver := wantGiver(p, body, x.S)
	if giver.Kind != api.LCmp {
		return false
	}
	if giver.L.Kind == api.EVar && giver.L.S == x.S {
		return wantMade(p, body, giver.R)
	}
	return wantMade(p, body, giver.L)
}

func wantCheck(p api.Prog, hung pairs) api.Fault {
	if fault := types.Check(p); fault.Why != api.OK {
		return fault
	}
	all := names(p)
	for _, c := range p.Clauses {
		row := hung.stratum(c.Head.Rel, all)
		for _, l := range c.Body {
			if l.Kind == api.LNot && slices.Contains(row, l.Atom.Rel) && hung.hangs(l.Atom.Rel, c.Head.Rel) {
				return api.Fault{Why: api.ErrStrat, At: l.At}
			}
		}
		if !hung.recursive(c, all) {
			continue
		}
		for _, x := range c.Head.Args {
			if wantMade(p, c.Body, x) {
				return api.Fault{Why: api.ErrFinite, At: x.At}
			}
		}
	}
	return api.Fault{}
}

// wantStrata: again and again the first Decl's stratum, of those that hang on no other one than those that came.
func wantStrata(p api.Prog, hung pairs) [][]string {
	var rows [][]string
	var came, decls []string
	for _, d := range p.Decls {
		decls = append(decls, d.Name)
	}
	for len(came) < len(decls) {
		for _, name := range decls {
			row := hung.stratum(name, decls)
			waits := slices.ContainsFunc(decls, func(other string) bool {
				return hung.hangs(name, other) && !slices.Contains(row, other) && !slices.Contains(came, other)
			})
			if !waits && !slices.Contains(came, name) {
				rows, came = append(rows, row), append(came, row...)
				break
			}
		}
	}
	return rows
}

// holds: all calls answer what the document's words say.
func holds(t *testing.T, p api.Prog, others ...api.Clause) api.Fault {
	t.Helper()
	hung, all := wantPairs(p), names(p)
	fault := Check(p)
	if want := wantCheck(p, hung); fault != want {
		t.Fatalf("Check: %v, want %v, of %+v", fault, want, p)
	}
	rows, f := Strata(p)
	var want [][]string
	if fault.Why == api.OK {
		want = wantStrata(p, hung)
	}
	if f != fault || listed(rows) != listed(want) || len(rows) != len(want) {
		t.Fatalf("Strata: %v %v, want %v %v, of %+v", rows, f, want, fault, p)
	}
	asked := append(slices.Clone(all), "none")
	for _, a := range asked {
		for _, b := range asked {
			if got := Hangs(p, a, b); got != hung.hangs(a, b) {
				t.Fatalf("%q hangs on %q: %v, of %+v", a, b, got, p)
			}
		}
	}
	for _, c := range slices.Concat(p.Clauses, others) {
		if got := Recursive(p, c); got != hung.recursive(c, all) {
			t.Fatalf("Recursive: %v, of %+v in %+v", got, c, p)
		}
	}
	return fault
}

// graph: a program of n relations without columns, in which each pair of two has one of so many kinds of a Lit between them: none, an LAtom or an LNot, by the digits of a number.
func graph(n, kinds, number int) api.Prog {
	var p api.Prog
	for i := range n {
		name := string(rune('a' + i))
		p.Decls = append(p.Decls, api.Decl{Name: name, At: i})
		c := api.Clause{Head: api.Atom{Rel: name}}
		for k := range n {
			if kind := number % kinds; kind > 0 {
				c.Body = append(c.Body, api.Lit{Kind: kind, Atom: api.Atom{Rel: string(rune('a' + k))}, At: 1 + i*n + k})
			}
			number /= kinds
		}
		p.Clauses = append(p.Clauses, c)
	}
	return p
}

func power(base, n int) int {
	all := 1
	for range n {
		all *= base
	}
	return all
}

// P13.1, P13.2: all programs of up to three relations in which each hangs on each by nothing, an LAtom or an LNot.
func TestAllOfThree(t *testing.T) {
	counts := map[api.Errno]int{}
	for n := range 4 {
		for number := range power(3, n*n) {
			counts[holds(t, graph(n, 3, number)).Why]++
		}
	}
	if counts[api.OK] < 1000 || counts[api.ErrStrat] < 1000 {
		t.Errorf("too few of a kind to tell: %v", counts)
	}
}

// P13.1, P13.2: all programs of four relations in which each hangs on each by nothing or an LAtom.
func TestAllOfFour(t *testing.T) {
	for number := range power(2, 16) {
		p := graph(4, 2, number)
		rows, fault := Strata(p)
		if want := wantStrata(p, wantPairs(p)); fault != (api.Fault{}) || !reflect.DeepEqual(rows, want) {
			t.Fatalf("%v %v, want %v, of %+v", rows, fault, want, p)
		}
	}
}

// chance makes programs by chance.
type chance struct{ *rand.Rand }

func newChance(seed int64) chance { return chance{rand.New(rand.NewSource(seed))} }

func (m chance) some(n int) bool { return m.Intn(n) == 0 }

func (m chance) pick(from ...string) string { return from[m.Intn(len(from))] }

// scene: a clause that is made, with its variables so far, by their types.
type scene struct {
	chance
	p     api.Prog
	known map[string][]string
	count int
}

func (s *scene) expr(kind int, text string, kids ...api.Expr) api.Expr {
	return api.Expr{Kind: kind, S: text, Kids: kids, At: s.Int()}
}

// fresh: a variable that has no type yet.
func (s *scene) fresh(t string) api.Expr {
	s.count++
	name := "v" + strconv.Itoa(s.count)
	s.known[t] = append(s.known[t], name)
	return s.expr(api.EVar, name)
}

// value: a value of a type; a variable, if there is one, more often than not.
func (s *scene) value(t string, deep int) api.Expr {
	switch {
	case len(s.known[t]) > 0 && (deep == 0 || !s.some(3)):
		return s.expr(api.EVar, s.pick(s.known[t]...))
	case t == "number" && (deep == 0 || s.some(2)):
		return s.expr(api.ENum, "")
	case t == "number":
		return s.expr(api.EOp, s.pick("+", "-", "*", "/", "%"), s.value(t, deep-1), s.value(t, deep-1))
	case deep == 0 || s.some(2):
		return s.expr(api.ECon, "Leaf")
	}
	return s.expr(api.ECon, "Node", s.value("number", deep-1), s.value(t, deep-1))
}

func (s *scene) pattern(t string, deep int) api.Expr {
	switch {
	case s.some(6):
		return s.expr(api.EAny, "")
	case s.some(2):
		return s.fresh(t)
	case t == "T" && deep > 0 && s.some(2):
		return s.expr(api.ECon, "Node", s.pattern("number", deep-1), s.pattern(t, deep-1))
	}
	return s.value(t, deep)
}

// atom: an atom of some relation, by what stands in its columns.
func (s *scene) atom(argument func(t string, deep int) api.Expr) api.Atom {
	d := s.p.Decls[s.Intn(len(s.p.Decls))]
	a := api.Atom{Rel: d.Name, At: s.Int()}
	for _, f := range d.Cols {
		a.Args = append(a.Args, argument(f.Type, 2))
	}
	return a
}

func (s *scene) lit() api.Lit {
	t := s.pick("number", "T")
	switch s.Intn(9) {
	case 0:
		return api.Lit{Kind: api.LNot, Atom: s.atom(s.value), At: s.Int()}
	case 1:
		return api.Lit{Kind: api.LCmp, Op: s.pick("=", "!="), L: s.value(t, 2), R: s.value(t, 2), At: s.Int()}
	case 2:
		return api.Lit{Kind: api.LCmp, Op: s.pick("<", "<=", ">", ">="), L: s.value("number", 2), R: s.value("number", 2), At: s.Int()}
	case 3, 4, 5:
		l := api.Lit{Kind: api.LCmp, Op: "=", L: s.value(t, 1), At: s.Int()}
		l.R = s.fresh(t)
		if s.some(2) {
			l.L, l.R = l.R, l.L
		}
		return l
	}
	return api.Lit{Kind: api.LAtom, Atom: s.atom(s.pattern), At: s.Int()}
}

func (m chance) clause(p api.Prog) api.Clause {
	s := &scene{chance: m, p: p, known: map[string][]string{}}
	c := api.Clause{At: m.Int()}
	for range m.Intn(5) {
		c.Body = append(c.Body, s.lit())
	}
	c.Head = s.atom(s.value)
	return c
}

// prog: relations and Clauses whose types are right.
func (m chance) prog() api.Prog {
	fields := []api.Field{{Name: "v", Type: "number"}, {Name: "l", Type: "T"}}
	p := api.Prog{Types: []api.TypeDecl{{Name: "T", Ctors: []api.Ctor{{Name: "Leaf"}, {Name: "Node", Fields: fields}}}}}
	for _, i := range m.Perm(1 + m.Intn(6)) {
		d := api.Decl{Name: m.pick("r", "", "a.b") + strconv.Itoa(i), At: m.Int()}
		for k := range m.Intn(3) {
			d.Cols = append(d.Cols, api.Field{Name: strconv.Itoa(k), Type: m.pick("number", "T")})
		}
		p.Decls = append(p.Decls, d)
	}
	for range m.Intn(7) {
		p.Clauses = append(p.Clauses, m.clause(p))
	}
	return p
}

// turn makes a program one that is mostly refused.
func (m chance) turn(p *api.Prog) {
	if m.some(8) {
		p.Inits = append(p.Inits, api.Init{At: m.Int()})
	}
	if m.some(4) {
		p.Decls = slices.Delete(p.Decls, 0, 1)
	}
	if m.some(4) {
		p.Decls = append(p.Decls, p.Decls...)
	}
	for i := range p.Clauses {
		c := &p.Clauses[i]
		if m.some(6) {
			c.Head.Rel = m.pick("r0", "none", "")
		}
		for k := range c.Body {
			switch m.Intn(9) {
			case 0:
				c.Body[k].Kind = m.Intn(6) - 1
			case 1:
				c.Body[k].Atom.Rel = m.pick("r0", "r1", "none", c.Head.Rel)
			}
		}
	}
}

// P13.1, P13.2: programs by chance, and clauses that are none of theirs, have the answers that the document says.
func TestByChance(t *testing.T) {
	counts := map[api.Errno]int{}
	for seed := range int64(20000) {
		m := newChance(seed)
		p := m.prog()
		other := m.clause(m.prog())
		counts[holds(t, p, m.clause(p), other).Why]++
	}
	if counts[api.OK] < 1000 || counts[api.ErrStrat] < 1000 || counts[api.ErrFinite] < 1000 || len(counts) != 3 {
		t.Errorf("too few of a kind to tell, or of another kind: %v", counts)
	}
}

// P13.1, P13.2: programs that layer 12 refuses likewise, with layer 12's fault.
func TestTurnedByChance(t *testing.T) {
	refused := 0
	for seed := range int64(6000) {
		m := newChance(seed)
		p := m.prog()
		other := m.clause(p)
		m.turn(&p)
		holds(t, p, other)
		if types.Check(p).Why != api.OK {
			refused++
		}
	}
	if refused < 2000 {
		t.Errorf("too few to tell: %d", refused)
	}
}

// places: in which stratum each relation is; each is in one.
func places(t *testing.T, p api.Prog, rows [][]string) map[string]int {
	t.Helper()
	place := map[string]int{}
	for i, row := range rows {
		for _, name := range row {
			if _, there := place[name]; there {
				t.Fatalf("%q is there twice in %v", name, rows)
			}
			place[name] = i
		}
	}
	for _, d := range p.Decls {
		if _, there := place[d.Name]; !there {
			t.Fatalf("%q is not there in %v", d.Name, rows)
		}
	}
	if len(place) != len(p.Decls) {
		t.Fatalf("others than the Decls are there in %v", rows)
	}
	return place
}

// P13.3, P13.4: every relation is in one stratum and hangs on none of a later one; those of one stratum hang on each other, or it is one alone; no others hang on each other.
func TestStrataByChance(t *testing.T) {
	several, below := 0, 0
	for seed := range int64(8000) {
		m := newChance(seed)
		p := m.prog()
		if m.some(2) {
			p = graph(6, 2, m.Int()&m.Int())
		}
		rows, fault := Strata(p)
		if fault.Why != api.OK {
			continue
		}
		place := places(t, p, rows)
		for a, i := range place {
			for b, k := range place {
				hangs, back := Hangs(p, a, b), Hangs(p, b, a)
				switch {
				case i < k && hangs:
					t.Fatalf("%q hangs on %q of a later stratum: %v", a, b, rows)
				case i == k && a != b && !(hangs && back):
					t.Fatalf("%q and %q are of one stratum: %v", a, b, rows)
				case i == k && a != b:
					several++
				case i > k && hangs:
					below++
				}
			}
		}
	}
	if several < 1000 || below < 1000 {
		t.Errorf("too few to tell: %d, %d", several, below)
	}
}

// P13.5: a program without Clauses has each relation by itself, in the order of the Decls.
func TestNoClausesByChance(t *testing.T) {
	for seed := range int64(500) {
		p := newChance(seed).prog()
		p.Clauses = nil
		rows, fault := Strata(p)
		if fault != (api.Fault{}) || len(rows) != len(p.Decls) {
			t.Fatalf("%v %v of %+v", rows, fault, p)
		}
		for i, d := range p.Decls {
			if len(rows[i]) != 1 || rows[i][0] != d.Name {
				t.Fatalf("%v of %+v", rows, p)
			}
		}
	}
}

// R6: lists that are nil and ones that are empty are the same.
func TestEmptyLists(t *testing.T) {
	p := api.Prog{
		Types: []api.TypeDecl{}, Comps: []api.Comp{}, Inits: []api.Init{},
		Decls:   []api.Decl{{Name: "a", Cols: []api.Field{}}, {Name: "b"}},
		Clauses: []api.Clause{{Head: api.Atom{Rel: "a", Args: []api.Expr{}}, Body: []api.Lit{}}, {Head: api.Atom{Rel: "b"}}},
	}
	if rows, fault := Strata(p); listed(rows) != "a, b" || fault != (api.Fault{}) || Recursive(p, p.Clauses[0]) {
		t.Errorf("%v %v", rows, fault)
	}
}
