package types

import (
	"math/rand"
	"slices"
	"strconv"
	"testing"

	"vestry/api"
)

// chance makes programs by chance.
type chance struct{ *rand.Rand }

func newChance(seed int64) chance { return chance{rand.New(rand.NewSource(seed))} }

func (m chance) some(n int) bool { return m.Intn(n) == 0 }

func (m chance) pick(from ...string) string { return from[m.Intn(len(from))] }

// many makes from none to most things.
func many[T any](m chance, most int, one func() T) []T {
	all := make([]T, m.Intn(most+1))
	for i := range all {
		all[i] = one()
	}
	return all
}

// typeName: the name of a type of the row of Types up to this number, or, rarely, any name.
func (m chance) typeName(n int) string {
	switch {
	case m.some(60):
		return m.pick("X", "", "T0", "T1", "T2", "T3")
	case n == 0 || m.some(3):
		return m.pick("number", "symbol")
	}
	return "T" + strconv.Itoa(m.Intn(n))
}

// fields: unlike names, rarely the same ones.
func (m chance) fields(most, types int) []api.Field {
	i := 0
	return many(m, most, func() api.Field {
		if !m.some(60) {
			i++
		}
		return api.Field{Name: "f" + strconv.Itoa(i), Type: m.typeName(types)}
	})
}

func (m chance) typeDecl(i, n int) api.TypeDecl {
	d := api.TypeDecl{Name: "T" + strconv.Itoa(i), At: m.Int()}
	if m.some(80) {
		d.Name = m.pick("number", "symbol", "T0", "T1", "")
	}
	switch {
	case m.some(15):
		d.Sub = m.typeName(n)
		return d
	case m.some(2):
		d.Sub = m.typeName(i)
		return d
	}
	k := 0
	d.Ctors = many(m, 3, func() api.Ctor {
		k++
		name := "C" + strconv.Itoa(i) + strconv.Itoa(k)
		if m.some(60) {
			name = m.pick("C01", "C11", "C12")
		}
		return api.Ctor{Name: name, Fields: m.fields(3, n)}
	})
	return d
}

func (m chance) decl(i, types int) api.Decl {
	name := "r" + strconv.Itoa(i)
	if m.some(60) {
		name = m.pick("r0", "r1", "")
	}
	return api.Decl{Name: name, Cols: m.fields(3, types), Input: m.some(2), Output: m.some(2), At: m.Int()}
}

// scene: what a clause that is made finds constructors and relations in, and the variables so far, with the types of where they first stood.
type scene struct {
	chance
	p     api.Prog
	known []api.Field
	value bool
}

// fits: the variables so far that may stand where this type is asked for.
func (m *scene) fits(t string) []string {
	var fit []string
	for _, v := range m.known {
		if wantBelow(m.p, v.Type, t) || !m.value && wantBelow(m.p, t, v.Type) {
			fit = append(fit, v.Name)
		}
	}
	return fit
}

// variable: mostly one that fits, or, in an atom, a new one.
func (m *scene) variable(t string) string {
	fit := m.fits(t)
	switch {
	case m.some(50) && len(m.known) > 0:
		return m.known[m.Intn(len(m.known))].Name
	case len(fit) > 0 && (m.value || m.some(2)):
		return m.pick(fit...)
	}
	name := "v" + strconv.Itoa(len(m.known))
	if !m.value {
		m.known = append(m.known, api.Field{Name: name, Type: t})
	}
	return name
}

// fit: an expression that mostly is of a type.
func (m *scene) fit(t string, deep int) api.Expr {
	x := api.Expr{At: m.Int()}
	base, _ := wantBase(m.p, t)
	switch {
	case m.some(60):
		x.Kind, x.N, x.S = 1+m.Intn(6), m.Intn(3), m.pick("v0", "v1", "+", "C01", "C11")
	case m.some(15) && !m.value || m.some(100):
		x.Kind = api.EAny
	case m.some(2) && (!m.value || len(m.fits(t)) > 0) || deep == 0:
		x.Kind, x.S = api.EVar, m.variable(t)
	case base == "number" && m.some(2):
		x.Kind, x.N = api.ENum, m.Intn(5)
	case base == "number":
		x.Kind, x.S = api.EOp, m.pick("+", "-", "*", "/", "%")
		ahead := m.value
		m.value = true
		x.Kids = []api.Expr{m.fit("number", deep-1), m.fit("number", deep-1)}
		m.value = ahead
	case base == "symbol":
		x.Kind, x.S = api.EText, m.pick("a", "")
	default:
		x.Kind = api.ECon
		m.con(&x, base, deep)
	}
	return x
}

// con: a constructor of a sum, mostly.
func (m *scene) con(x *api.Expr, sum string, deep int) {
	x.S = m.pick("C01", "C11", "C02", "C31", "None")
	for _, d := range m.p.Types {
		if d.Name == sum && len(d.Ctors) > 0 {
			c := d.Ctors[m.Intn(len(d.Ctors))]
			x.S = c.Name
			for _, f := range c.Fields {
				x.Kids = append(x.Kids, m.fit(f.Type, deep-1))
			}
		}
	}
	if m.some(40) {
		x.Kids = append(x.Kids, m.fit("number", 0))
	}
}

func (m *scene) atom() api.Atom {
	a := api.Atom{Rel: m.pick("r0", "none", ""), At: m.Int()}
	if n := len(m.p.Decls); n > 0 && !m.some(60) {
		d := m.p.Decls[m.Intn(n)]
		a.Rel = d.Name
		for _, f := range d.Cols {
			a.Args = append(a.Args, m.fit(f.Type, 2))
		}
	}
	if m.some(80) {
		a.Args = append(a.Args, m.fit("number", 0))
	}
	return a
}

func (m *scene) lit() api.Lit {
	l := api.Lit{Kind: 1, At: m.Int()}
	switch {
	case m.some(60):
		l.Kind = m.Intn(6)
	case m.some(3):
		l.Kind = 2 + m.Intn(2)
	}
	m.value = l.Kind != api.LAtom
	if l.Kind != api.LCmp {
		l.Atom = m.atom()
		return l
	}
	t := m.typeName(len(m.p.Types))
	l.Op, l.L, l.R = m.pick("=", "=", "=", "!=", "<", "<=", ">", ">="), m.fit(t, 2), m.fit(t, 2)
	if l.Op == "=" && m.some(2) {
		given := []*api.Expr{&l.L, &l.R}[m.Intn(2)]
		*given = api.Expr{Kind: api.EVar, S: "v" + strconv.Itoa(len(m.known)), At: m.Int()}
		m.known = append(m.known, api.Field{Name: given.S, Type: t})
	}
	return l
}

func (m chance) clause(p api.Prog) api.Clause {
	s := &scene{chance: m, p: p}
	c := api.Clause{Body: many(m, 5, s.lit), At: m.Int()}
	s.value = true
	c.Head = s.atom()
	return c
}

// prog: Types in a row, mostly on those ahead, Decls and Clauses.
func (m chance) prog() api.Prog {
	var p api.Prog
	n := m.Intn(6)
	for i := range n {
		p.Types = append(p.Types, m.typeDecl(i, n))
	}
	for i := range m.Intn(5) {
		p.Decls = append(p.Decls, m.decl(i, n))
	}
	p.Clauses = many(m, 4, func() api.Clause { return m.clause(p) })
	if m.some(80) {
		p.Comps = many(m, 2, func() api.Comp { return api.Comp{At: m.Int()} })
	}
	if m.some(80) {
		p.Inits = many(m, 2, func() api.Init { return api.Init{At: m.Int()} })
	}
	return p
}

// The document's words, one by one, with nothing held in tables.

// wantType: the first Type of a name.
func wantType(p api.Prog, t string) (api.TypeDecl, bool) {
	if t == "number" || t == "symbol" {
		return api.TypeDecl{Name: t}, true
	}
	i := slices.IndexFunc(p.Types, func(d api.TypeDecl) bool { return d.Name == t })
	if i < 0 {
		return api.TypeDecl{}, false
	}
	return p.Types[i], true
}

// wantRow: the row of Subs that a type begins, whether it ends at a type without a Sub, and whether it leads round.
func wantRow(p api.Prog, t string) (row []string, ends, round bool) {
	for {
		d, there := wantType(p, t)
		if !there {
			return row, false, false
		}
		if slices.Contains(row, t) {
			return row, false, true
		}
		row = append(row, t)
		if d.Sub == "" {
			return row, true, false
		}
		t = d.Sub
	}
}

func wantBase(p api.Prog, t string) (string, bool) {
	row, ends, _ := wantRow(p, t)
	if !ends {
		return "", false
	}
	return row[len(row)-1], true
}

func wantBelow(p api.Prog, a, b string) bool {
	row, ends, _ := wantRow(p, a)
	return ends && slices.Contains(row, b)
}

// wantCheck: Check by the document's words.
func wantCheck(p api.Prog) api.Fault {
	for _, c := range p.Comps {
		return api.Fault{Why: api.ErrArg, At: c.At}
	}
	for _, i := range p.Inits {
		return api.Fault{Why: api.ErrArg, At: i.At}
	}
	var names, ctors []string
	for _, d := range p.Types {
		if d.Name == "number" || d.Name == "symbol" {
			return api.Fault{Why: api.ErrArg, At: d.At}
		}
		there := slices.Contains(names, d.Name)
		for _, c := range d.Ctors {
			there = there || slices.Contains(ctors, c.Name) || sameNames(c.Fields)
			ctors = append(ctors, c.Name)
		}
		if there {
			return api.Fault{Why: api.ErrThere, At: d.At}
		}
		names = append(names, d.Name)
	}
	if fault := wantTypes(p); fault.Why != api.OK {
		return fault
	}
	for i, d := range p.Decls {
		if sameNames(d.Cols) || slices.ContainsFunc(p.Decls[:i], func(e api.Decl) bool { return e.Name == d.Name }) {
			return api.Fault{Why: api.ErrThere, At: d.At}
		}
		if noTypes(p, d.Cols) {
			return api.Fault{Why: api.ErrNone, At: d.At}
		}
	}
	for _, c := range p.Clauses {
		if _, fault := wantInfer(p, c); fault.Why != api.OK {
			return fault
		}
	}
	return api.Fault{}
}

func wantTypes(p api.Prog) api.Fault {
	for _, d := range p.Types {
		var used []api.Field
		for _, c := range d.Ctors {
			used = append(used, c.Fields...)
		}
		if d.Sub != "" {
			used = append(used, api.Field{Type: d.Sub})
		}
		if noTypes(p, used) {
			return api.Fault{Why: api.ErrNone, At: d.At}
		}
		if _, _, round := wantRow(p, d.Name); round {
			return api.Fault{Why: api.ErrRing, At: d.At}
		}
	}
	return api.Fault{}
}

func sameNames(fields []api.Field) bool {
	for i, f := range fields {
		for _, g := range fields[:i] {
			if f.Name == g.Name {
				return true
			}
		}
	}
	return false
}

func noTypes(p api.Prog, fields []api.Field) bool {
	return slices.ContainsFunc(fields, func(f api.Field) bool {
		_, there := wantType(p, f.Type)
		return !there
	})
}

// going: a clause that is gone through: it ends by a panic of a fault.
type going struct {
	p    api.Prog
	vars []api.Field
}

func wantInfer(p api.Prog, c api.Clause) (vars []api.Field, fault api.Fault) {
	defer func() {
		if told := recover(); told != nil {
			vars, fault = nil, told.(api.Fault)
		}
	}()
	g := &going{p: p}
	cols := [][]api.Field{g.cols(c.Head)}
	for _, l := range c.Body {
		var own []api.Field
		if l.Kind == api.LAtom || l.Kind == api.LNot {
			own = g.cols(l.Atom)
		}
		cols = append(cols, own)
	}
	for i, l := range c.Body {
		g.lit(l, cols[i+1])
	}
	for i, x := range c.Head.Args {
		g.fits(x, cols[0][i].Type)
	}
	return g.vars, api.Fault{}
}

func tell(wrong bool, why api.Errno, at int) {
	if wrong {
		panic(api.Fault{Why: why, At: at})
	}
}

func (g *going) cols(a api.Atom) []api.Field {
	i := slices.IndexFunc(g.p.Decls, func(d api.Decl) bool { return d.Name == a.Rel })
	tell(i < 0, api.ErrNone, a.At)
	tell(len(g.p.Decls[i].Cols) != len(a.Args), api.ErrWidth, a.At)
	return g.p.Decls[i].Cols
}

func (g *going) base(t string) string {
	base, there := wantBase(g.p, t)
	if !there {
		return "no base at all"
	}
	return base
}

func (g *going) lit(l api.Lit, cols []api.Field) {
	tell(l.Kind < 1 || l.Kind > 3, api.ErrArg, l.At)
	if l.Kind == api.LCmp {
		g.cmp(l)
		return
	}
	for i, x := range l.Atom.Args {
		if l.Kind == api.LAtom {
			g.pattern(x, cols[i].Type)
			continue
		}
		t := g.value(x)
		tell(g.base(t) != g.base(cols[i].Type), api.ErrType, x.At)
	}
}

func (g *going) cmp(l api.Lit) {
	signs := map[string]int{"=": 1, "!=": 1, "<": 2, "<=": 2, ">": 2, ">=": 2}
	tell(signs[l.Op] == 0, api.ErrArg, l.At)
	if l.Op == "=" {
		for _, pair := range [][2]api.Expr{{l.L, l.R}, {l.R, l.L}} {
			if pair[0].Kind == api.EVar && g.of(pair[0].S) == nil {
				t := g.value(pair[1])
				g.vars = append(g.vars, api.Field{Name: pair[0].S, Type: t})
				return
			}
		}
	}
	left, right := g.base(g.value(l.L)), g.base(g.value(l.R))
	if signs[l.Op] == 1 {
		tell(left != right, api.ErrType, l.R.At)
		return
	}
	tell(left != "number", api.ErrType, l.L.At)
	tell(right != "number", api.ErrType, l.R.At)
}

// of: what a variable has; nil of one without a type.
func (g *going) of(name string) *api.Field {
	for i := range g.vars {
		if g.vars[i].Name == name {
			return &g.vars[i]
		}
	}
	return nil
}

func (g *going) pattern(x api.Expr, t string) {
	switch x.Kind {
	case api.EVar:
		v := g.of(x.S)
		if v == nil {
			g.vars = append(g.vars, api.Field{Name: x.S, Type: t})
		} else if !wantBelow(g.p, v.Type, t) {
			tell(!wantBelow(g.p, t, v.Type), api.ErrType, x.At)
			v.Type = t
		}
	case api.EAny:
	case api.ENum, api.EOp:
		tell(g.base(t) != "number", api.ErrType, x.At)
		g.value(x)
	case api.EText:
		tell(g.base(t) != "symbol", api.ErrType, x.At)
	case api.ECon:
		c, sum := g.ctor(x)
		tell(sum != g.base(t), api.ErrType, x.At)
		tell(len(c.Fields) != len(x.Kids), api.ErrWidth, x.At)
		for i, kid := range x.Kids {
			g.pattern(kid, c.Fields[i].Type)
		}
	default:
		tell(true, api.ErrArg, x.At)
	}
}

func (g *going) ctor(x api.Expr) (api.Ctor, string) {
	for _, d := range g.p.Types {
		for _, c := range d.Ctors {
			if c.Name == x.S {
				return c, d.Name
			}
		}
	}
	panic(api.Fault{Why: api.ErrNone, At: x.At})
}

func (g *going) value(x api.Expr) string {
	switch x.Kind {
	case api.EVar:
		v := g.of(x.S)
		tell(v == nil, api.ErrGround, x.At)
		return v.Type
	case api.EAny:
		tell(true, api.ErrGround, x.At)
	case api.ENum:
		return "number"
	case api.EText:
		return "symbol"
	case api.EOp:
		tell(len(x.Kids) != 2 || len(x.S) != 1 || !slices.Contains([]byte("+-*/%"), x.S[0]), api.ErrArg, x.At)
		for _, kid := range x.Kids {
			tell(g.base(g.value(kid)) != "number", api.ErrType, kid.At)
		}
		return "number"
	case api.ECon:
		c, sum := g.ctor(x)
		tell(len(c.Fields) != len(x.Kids), api.ErrWidth, x.At)
		for i, kid := range x.Kids {
			g.fits(kid, c.Fields[i].Type)
		}
		return sum
	}
	panic(api.Fault{Why: api.ErrArg, At: x.At})
}

func (g *going) fits(x api.Expr, t string) {
	own := g.value(x)
	switch {
	case x.Kind == api.ENum && g.base(t) == "number":
	case x.Kind == api.EText && g.base(t) == "symbol":
	default:
		tell(!wantBelow(g.p, own, t), api.ErrType, x.At)
	}
}

// names: those that a program's Types have, and others.
func names(p api.Prog) []string {
	all := []string{"number", "symbol", "X", "", "T0", "C01"}
	for _, d := range p.Types {
		all = append(all, d.Name, d.Sub)
	}
	return all
}

// holds: all calls answer what the document's words say.
func holds(t *testing.T, p api.Prog, others ...api.Clause) api.Fault {
	t.Helper()
	fault := Check(p)
	if want := wantCheck(p); fault != want {
		t.Fatalf("Check: %v, want %v, of %+v", fault, want, p)
	}
	for _, c := range slices.Concat(p.Clauses, others) {
		vars, f := Infer(p, c)
		want, why := wantInfer(p, c)
		if f != why || !slices.Equal(vars, want) || f.Why != api.OK && vars != nil {
			t.Fatalf("Infer: %s %v, want %s %v, of %+v in %+v", listed(vars), f, listed(want), why, c, p)
		}
	}
	for _, a := range names(p) {
		base, there := Base(p, a)
		if want, is := wantBase(p, a); base != want || there != is {
			t.Fatalf("Base of %q: %q %v, want %q %v, of %+v", a, base, there, want, is, p)
		}
		for _, b := range names(p) {
			if got := Below(p, a, b); got != wantBelow(p, a, b) {
				t.Fatalf("%q below %q: %v, of %+v", a, b, got, p)
			}
		}
	}
	return fault
}

// P12.1 to P12.3: programs by chance have the types and the faults that the document says.
func TestByChance(t *testing.T) {
	counts := map[api.Errno]int{}
	inner := map[api.Errno]int{}
	for seed := range int64(12000) {
		m := newChance(seed)
		p := m.prog()
		for range m.Intn(3) * m.Intn(2) {
			m.turn(&p)
		}
		counts[holds(t, p, m.clause(p)).Why]++
		for _, c := range p.Clauses {
			_, f := Infer(p, c)
			inner[f.Why]++
		}
	}
	for _, why := range []api.Errno{api.OK, api.ErrArg, api.ErrNone, api.ErrThere, api.ErrRing, api.ErrType, api.ErrWidth, api.ErrGround} {
		if counts[why] < 100 || inner[why] < 100 && why != api.ErrThere && why != api.ErrRing {
			t.Errorf("too few of a kind to tell: %v %v", counts, inner)
		}
	}
}

// P12.4: being below goes on, what is below one another is the same type, and what has a base is below itself and that.
func TestBelowGoesOn(t *testing.T) {
	told := 0
	for seed := range int64(3000) {
		m := newChance(seed)
		p := m.prog()
		if m.some(3) {
			m.turn(&p)
		}
		all := names(p)
		slices.Sort(all)
		all = slices.Compact(all)
		for _, a := range all {
			base, there := Base(p, a)
			if Below(p, a, a) != there || there && !Below(p, a, base) {
				t.Fatalf("%q and its base %q %v, of %+v", a, base, there, p)
			}
			for _, b := range all {
				if !Below(p, a, b) {
					continue
				}
				if a != b && Below(p, b, a) {
					t.Fatalf("%q and %q are below one another, of %+v", a, b, p)
				}
				if other, _ := Base(p, b); other != base {
					t.Fatalf("%q is below %q, and of another base: %q, %q, of %+v", a, b, base, other, p)
				}
				for _, c := range all {
					if Below(p, b, c) {
						told++
						if !Below(p, a, c) {
							t.Fatalf("%q, %q, %q: below does not go on, of %+v", a, b, c, p)
						}
					}
				}
			}
		}
	}
	if told < 10000 {
		t.Errorf("too few to tell: %d", told)
	}
}

// P12.5: a variable's type is below the types of all columns of atoms, the head too, in which it stands itself.
func TestVariablesAreBelow(t *testing.T) {
	told := 0
	for seed := range int64(20000) {
		p := newChance(seed).prog()
		if Check(p) != (api.Fault{}) {
			continue
		}
		for _, c := range p.Clauses {
			vars, _ := Infer(p, c)
			atoms := []api.Atom{c.Head}
			for _, l := range c.Body {
				if l.Kind == api.LAtom {
					atoms = append(atoms, l.Atom)
				}
			}
			for _, a := range atoms {
				d := p.Decls[slices.IndexFunc(p.Decls, func(d api.Decl) bool { return d.Name == a.Rel })]
				for i, x := range a.Args {
					if x.Kind != api.EVar {
						continue
					}
					v := vars[slices.IndexFunc(vars, func(v api.Field) bool { return v.Name == x.S })]
					if told++; !Below(p, v.Type, d.Cols[i].Type) {
						t.Fatalf("%s is not below %s, in %+v of %+v", v.Type, d.Cols[i].Type, c, p)
					}
				}
			}
		}
	}
	if told < 1000 {
		t.Errorf("too few to tell: %d", told)
	}
}

// P12.6: clauses turn nothing of one another's types: each has those that it has alone, and Check tells what the first wrong one does.
func TestClausesAlone(t *testing.T) {
	told := 0
	for seed := range int64(4000) {
		p := newChance(seed).prog()
		alone, others := copied(p), copied(p)
		alone.Clauses = nil
		slices.Reverse(others.Clauses)
		var first api.Fault
		for _, c := range p.Clauses {
			vars, fault := Infer(p, c)
			for _, q := range []api.Prog{alone, others} {
				if got, f := Infer(q, c); f != fault || !slices.Equal(got, vars) {
					t.Fatalf("%s %v, want %s %v, of %+v", listed(got), f, listed(vars), fault, c)
				}
			}
			if first.Why == api.OK {
				first = fault
			}
			told++
		}
		if Check(alone) == (api.Fault{}) && Check(p) != first {
			t.Fatalf("%v, want %v, of %+v", Check(p), first, p)
		}
	}
	if told < 1000 {
		t.Errorf("too few to tell: %d", told)
	}
}
