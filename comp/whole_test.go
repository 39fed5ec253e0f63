package comp

import (
	"fmt"
	"math/rand"
	"reflect"
	"slices"
	"strings"
	"sync"
	"testing"

	"vestry/api"
)

// chance makes programs by chance.
type chance struct{ *rand.Rand }

func newChance(seed int64) chance { return chance{rand.New(rand.NewSource(seed))} }

func (m chance) some(n int) bool { return m.Intn(n) == 0 }

func (m chance) pick(from ...string) string { return from[m.Intn(len(from))] }

// many makes from none to most things.
func many[T any](m chance, most int, one func() T) []T {
	all := make([]T, m.Intn(most+1))
	for i := range all {
		all[i] = one()
	}
	return all
}

// rel: a name in a clause, of few words, so that bodies often have it.
func (m chance) rel() string {
	return m.pick("r", "s", "t", "e", "i", "j", "i.r", "j.s", "i.j.r", "r.i", "e.r", "x.y.z", strings.Repeat("k", 50), strings.Repeat("k", 64))
}

func (m chance) expr(deep int) api.Expr {
	x := api.Expr{Kind: 1 + m.Intn(6), N: m.Intn(3), S: m.pick("r", "s", "+", "x"), At: m.Int()}
	if deep > 0 {
		x.Kids = many(m, 2, func() api.Expr { return m.expr(deep - 1) })
	}
	return x
}

func (m chance) atom() api.Atom {
	return api.Atom{Rel: m.rel(), Args: many(m, 2, func() api.Expr { return m.expr(2) }), At: m.Int()}
}

func (m chance) lit() api.Lit {
	l := api.Lit{Kind: 1 + m.Intn(3), At: m.Int()}
	if l.Kind == api.LCmp {
		l.Op, l.L, l.R = m.pick("=", "<"), m.expr(2), m.expr(2)
		return l
	}
	l.Atom = m.atom()
	return l
}

func (m chance) clause() api.Clause {
	return api.Clause{Head: m.atom(), Body: many(m, 3, m.lit), At: m.Int()}
}

func (m chance) field() api.Field {
	return api.Field{Name: m.pick("r", "x"), Type: m.pick("r", "number")}
}

func (m chance) decl() api.Decl {
	name := m.pick("r", "s", "t", "u", "v")
	if m.some(40) {
		name = strings.Repeat("k", 50)
	}
	return api.Decl{Name: name, Cols: many(m, 2, m.field), Input: m.some(2), Output: m.some(2), At: m.Int()}
}

func (m chance) typeDecl() api.TypeDecl {
	return api.TypeDecl{Name: m.pick("T", "S"), Sub: m.pick("", "number"), At: m.Int(), Ctors: many(m, 2, func() api.Ctor {
		return api.Ctor{Name: m.pick("A", "B"), Fields: many(m, 2, m.field)}
	})}
}

// init: of a component in the row from the number least on, so that rings are rare, but there.
func (m chance) init(least, n int) api.Init {
	name := fmt.Sprint(m.pick("i", "j", "k", "l"), m.pick("", "", "1", "2", "3"))
	if m.some(30) {
		name = strings.Repeat("k", 10+m.Intn(55))
	}
	return api.Init{Name: name, Comp: m.comp(least, n), At: m.Int()}
}

// comp: the name of a component in the row from the number least on.
func (m chance) comp(least, n int) string {
	switch {
	case m.some(60):
		return m.pick("X", "", "C0.C1")
	case m.some(40) || least >= n:
		return fmt.Sprint("C", m.Intn(n))
	}
	return fmt.Sprint("C", least+m.Intn(n-least))
}

func (m chance) body(i, n int) api.Prog {
	p := api.Prog{Decls: many(m, 2, m.decl), Clauses: many(m, 2, m.clause)}
	if i+1 < n || m.some(10) {
		p.Inits = many(m, 2, func() api.Init { return m.init(i+1, n) })
	}
	if m.some(20) {
		p.Clauses = many(m, 60, m.clause)
	}
	if m.some(80) {
		p.Types = many(m, 2, m.typeDecl)
	}
	if m.some(80) {
		p.Comps = many(m, 2, func() api.Comp { return api.Comp{Name: "N", Body: m.body(n, n), At: m.Int()} })
	}
	return p
}

// prog: a program of a row of components, whose Bases and Inits mostly lie behind them in it.
func (m chance) prog() api.Prog {
	n := 1 + m.Intn(6)
	p := api.Prog{Types: many(m, 2, m.typeDecl), Decls: many(m, 3, m.decl), Clauses: many(m, 3, m.clause)}
	for i := range n {
		c := api.Comp{Name: fmt.Sprint("C", i), Body: m.body(i, n), At: m.Int()}
		if i+1 < n {
			c.Bases = many(m, 2, func() string { return m.comp(i+1, n) })
		}
		p.Comps = append(p.Comps, c)
		if m.some(60) {
			p.Comps = append(p.Comps, c)
		}
	}
	p.Inits = many(m, 4, func() api.Init { return m.init(0, n) })
	return p
}

// The whole body by the document's words: lists of lists, each Base's ahead of the component's own.
func wantWhole(p api.Prog, name string) (api.Prog, api.Errno) {
	bodies := 0
	var sum []api.Prog
	var from func(way []string) api.Errno
	from = func(way []string) api.Errno {
		name := way[len(way)-1]
		at := slices.IndexFunc(p.Comps, func(c api.Comp) bool { return c.Name == name })
		if slices.Contains(way[:len(way)-1], name) {
			return api.ErrRing
		}
		if at < 0 {
			return api.ErrNone
		}
		if bodies == api.MaxRules {
			return api.ErrMany
		}
		bodies++
		for _, base := range p.Comps[at].Bases {
			if e := from(append(slices.Clone(way), base)); e != api.OK {
				return e
			}
		}
		sum = append(sum, p.Comps[at].Body)
		if items(all(sum)) > api.MaxRules {
			return api.ErrMany
		}
		return api.OK
	}
	if e := from([]string{name}); e != api.OK {
		return api.Prog{}, e
	}
	return all(sum), api.OK
}

// all: programs kind by kind.
func all(list []api.Prog) api.Prog {
	var sum api.Prog
	for _, p := range list {
		sum.Types = slices.Concat(sum.Types, p.Types)
		sum.Decls = slices.Concat(sum.Decls, p.Decls)
		sum.Comps = slices.Concat(sum.Comps, p.Comps)
		sum.Inits = slices.Concat(sum.Inits, p.Inits)
		sum.Clauses = slices.Concat(sum.Clauses, p.Clauses)
	}
	return sum
}

func items(p api.Prog) int {
	return len(p.Types) + len(p.Decls) + len(p.Comps) + len(p.Inits) + len(p.Clauses)
}

// task: an Init that is still to be made: where it lies, at which number, under which prefix, in which components.
type task struct {
	in     api.Prog
	number int
	prefix string
	way    []string
}

// tasks: those of all Inits of a body.
func tasks(in api.Prog, prefix string, way []string) []task {
	var list []task
	for i := range in.Inits {
		list = append(list, task{in, i, prefix, way})
	}
	return list
}

// The flat program by the document's words, from a list of what is still to be made: an instance's own Inits come ahead of the rest.
func wantFlat(p api.Prog) (api.Prog, api.Fault) {
	if f := wantComps(p.Comps); f.Why != api.OK {
		return api.Prog{}, f
	}
	flat := copied(api.Prog{Types: p.Types, Decls: p.Decls, Clauses: p.Clauses})
	made := 0
	for todo := tasks(p, "", nil); len(todo) > 0; made++ {
		t := todo[0]
		init := t.in.Inits[t.number]
		told := func(why api.Errno) (api.Prog, api.Fault) { return api.Prog{}, api.Fault{Why: why, At: init.At} }
		if slices.ContainsFunc(t.in.Decls, func(d api.Decl) bool { return d.Name == init.Name }) ||
			slices.ContainsFunc(t.in.Inits[:t.number], func(i api.Init) bool { return i.Name == init.Name }) {
			return told(api.ErrThere)
		}
		body, e := wantWhole(p, init.Comp)
		if e != api.OK {
			return told(e)
		}
		if slices.Contains(t.way, init.Comp) {
			return told(api.ErrRing)
		}
		if made == api.MaxRules {
			return told(api.ErrMany)
		}
		prefix := t.prefix + init.Name + "."
		f := wantInstance(&flat, copied(body), prefix)
		if f.Why != api.OK {
			return api.Prog{}, f
		}
		if len(flat.Decls)+len(flat.Clauses) > api.MaxRules {
			return told(api.ErrMany)
		}
		todo = append(tasks(body, prefix, append(slices.Clone(t.way), init.Comp)), todo[1:]...)
	}
	return flat, api.Fault{}
}

func wantComps(comps []api.Comp) api.Fault {
	for i, c := range comps {
		if slices.ContainsFunc(comps[:i], func(d api.Comp) bool { return d.Name == c.Name }) {
			return api.Fault{Why: api.ErrThere, At: c.At}
		}
	}
	for _, c := range comps {
		for _, d := range c.Body.Types {
			return api.Fault{Why: api.ErrArg, At: d.At}
		}
		for _, d := range c.Body.Comps {
			return api.Fault{Why: api.ErrArg, At: d.At}
		}
	}
	return api.Fault{}
}

// wantInstance puts the Decls and the Clauses of a body, which is its own, under a prefix.
func wantInstance(flat *api.Prog, body api.Prog, prefix string) (f api.Fault) {
	var have []string
	for _, d := range body.Decls {
		have = append(have, d.Name)
	}
	for _, i := range body.Inits {
		have = append(have, i.Name)
	}
	put := func(name *string, at int, own bool) {
		if own {
			*name = prefix + *name
		}
		if f.Why == api.OK && len(*name) > api.MaxName {
			f = api.Fault{Why: api.ErrLong, At: at}
		}
	}
	for _, d := range body.Decls {
		put(&d.Name, d.At, true)
		flat.Decls = append(flat.Decls, d)
	}
	for _, c := range body.Clauses {
		named := []*api.Atom{&c.Head}
		for i, l := range c.Body {
			if l.Kind == api.LAtom || l.Kind == api.LNot {
				named = append(named, &c.Body[i].Atom)
			}
		}
		for _, a := range named {
			put(&a.Rel, a.At, slices.Contains(have, strings.Split(a.Rel, ".")[0]))
		}
		flat.Clauses = append(flat.Clauses, c)
	}
	return f
}

// alike: the same, nil and empty lists aside.
func alike(a, b reflect.Value) bool {
	switch a.Kind() {
	case reflect.Struct:
		for i := range a.NumField() {
			if !alike(a.Field(i), b.Field(i)) {
				return false
			}
		}
		return true
	case reflect.Slice:
		for i := range min(a.Len(), b.Len()) {
			if !alike(a.Index(i), b.Index(i)) {
				return false
			}
		}
		return a.Len() == b.Len()
	}
	return a.Equal(b)
}

func same(a, b api.Prog) bool { return alike(reflect.ValueOf(a), reflect.ValueOf(b)) }

// holds: both calls answer what the document's words say.
func holds(t *testing.T, p api.Prog) (api.Prog, api.Fault) {
	t.Helper()
	got, f := Flatten(p)
	want, fault := wantFlat(p)
	if f != fault || !same(got, want) {
		t.Fatalf("%+v %v, want %+v %v, of %+v", got, f, want, fault, p)
	}
	for _, name := range append([]string{"X", "", "C0.C1"}, names(p)...) {
		body, e := Whole(p, name)
		if want, why := wantWhole(p, name); e != why || !same(body, want) {
			t.Fatalf("%s: %+v %v, want %+v %v, of %+v", name, body, e, want, why, p)
		}
	}
	if flat := len(p.Comps)+len(p.Inits) == 0; Flat(p) != flat {
		t.Fatalf("flat: %v, of %+v", !flat, p)
	}
	return got, f
}

func names(p api.Prog) []string {
	var all []string
	for _, c := range p.Comps {
		all = append(all, c.Name)
	}
	return all
}

// P11.1, P11.2: programs by chance, whole and turned, have the bodies and the flat programs that the document says.
func TestByChance(t *testing.T) {
	counts := map[api.Errno]int{}
	for seed := range int64(6000) {
		m := newChance(seed)
		p := m.prog()
		for range m.Intn(3) * m.Intn(2) {
			m.turn(&p)
		}
		_, f := holds(t, p)
		counts[f.Why]++
	}
	for _, why := range []api.Errno{api.OK, api.ErrArg, api.ErrLong, api.ErrMany, api.ErrNone, api.ErrThere, api.ErrRing} {
		if counts[why] < 25 {
			t.Errorf("too few of a kind to tell: %v", counts)
		}
	}
}

// P11.3: a flat program is its own, whatever it has; so is what Flatten answers.
func TestFlatIsItsOwn(t *testing.T) {
	for seed := range int64(1500) {
		m := newChance(seed)
		p := m.prog()
		p.Comps, p.Inits = nil, []api.Init{}
		for range m.Intn(3) {
			m.turn(&p)
		}
		if !Flat(p) {
			continue
		}
		if got, f := Flatten(p); f != (api.Fault{}) || !same(got, p) {
			t.Fatalf("%+v %v, want it as it was: %+v", got, f, p)
		}
		q, f := Flatten(m.prog())
		if again, g := Flatten(q); g != (api.Fault{}) || !same(again, q) || !Flat(q) {
			t.Fatalf("%v: %+v %v, want it as it was: %+v", f, again, g, q)
		}
	}
}

// P11.4: a component with Bases makes what one makes that has their whole bodies written in ahead of its own.
func TestBasesWrittenIn(t *testing.T) {
	told := 0
	for seed := range int64(4000) {
		m := newChance(seed)
		p := m.prog()
		want, f := Flatten(p)
		if f.Why != api.OK {
			continue
		}
		written := copied(p)
		for i, c := range p.Comps {
			ahead, e := []api.Prog(nil), api.OK
			for _, base := range c.Bases {
				body, why := Whole(p, base)
				ahead, e = append(ahead, body), max(e, why)
			}
			if e != api.OK { // no Init is one of it
				continue
			}
			if len(c.Bases) > 0 {
				told++
			}
			written.Comps[i].Bases = nil
			written.Comps[i].Body = all(append(ahead, c.Body))
		}
		if got, g := Flatten(written); g != (api.Fault{}) || !same(got, want) {
			t.Fatalf("%+v %v, want %+v, of %+v", got, g, want, p)
		}
	}
	if told < 500 {
		t.Errorf("too few to tell: %d", told)
	}
}

// P11.5: instances of unlike names have no relation in common.
func TestNothingInCommon(t *testing.T) {
	told := 0
	for seed := range int64(4000) {
		p := newChance(seed).prog()
		p.Decls, p.Clauses = nil, nil
		if _, f := Flatten(p); f.Why != api.OK {
			continue
		}
		seen := map[string]string{}
		for _, init := range p.Inits {
			one := p
			one.Inits = []api.Init{init}
			q, _ := Flatten(one)
			for _, d := range q.Decls {
				if other, there := seen[d.Name]; there && other != init.Name {
					t.Fatalf("%s is of %s and of %s, in %+v", d.Name, init.Name, other, p)
				}
				seen[d.Name] = init.Name
				told++
			}
		}
	}
	if told < 1000 {
		t.Errorf("too few to tell: %d", told)
	}
}

// copied: a thing that shares nothing with the one that is handed in.
func copied[T any](x T) T {
	return deepCopy(reflect.ValueOf(x), 0).Interface().(T)
}

// deepCopy copies a thing, with room behind the end of each list, all of it zero.
func deepCopy(v reflect.Value, room int) reflect.Value {
	twin := reflect.New(v.Type()).Elem()
	twin.Set(v)
	switch v.Kind() {
	case reflect.Struct:
		for i := range v.NumField() {
			twin.Field(i).Set(deepCopy(v.Field(i), room))
		}
	case reflect.Slice:
		list := reflect.MakeSlice(v.Type(), v.Len()+room, v.Len()+room)
		for i := range v.Len() {
			list.Index(i).Set(deepCopy(v.Index(i), room))
		}
		twin.Set(list.Slice(0, v.Len()))
	}
	return twin
}

// untouched: whether what lies behind the ends of all lists is still zero.
func untouched(v reflect.Value) bool {
	switch v.Kind() {
	case reflect.Struct:
		for i := range v.NumField() {
			if !untouched(v.Field(i)) {
				return false
			}
		}
	case reflect.Slice:
		whole := v.Slice(0, v.Cap())
		for i := range whole.Len() {
			if i >= v.Len() && !whole.Index(i).IsZero() || !untouched(whole.Index(i)) {
				return false
			}
		}
	}
	return true
}

// places: all parts of a program that can be turned, inner ones first.
func places(v reflect.Value) []reflect.Value {
	var found []reflect.Value
	switch v.Kind() {
	case reflect.Struct:
		for i := range v.NumField() {
			found = append(found, places(v.Field(i))...)
		}
	case reflect.Slice:
		for i := range v.Len() {
			found = append(found, places(v.Index(i))...)
		}
		found = append(found, v)
	default:
		found = append(found, v)
	}
	return found
}

// turn turns one part of a program.
func (m chance) turn(p *api.Prog) {
	found := places(reflect.ValueOf(p).Elem())
	v := found[m.Intn(len(found))]
	switch v.Kind() {
	case reflect.String:
		v.SetString(m.pick("", "_", "r", "i", ".", "a.b", ".r", "r.", "C0", "C1", strings.Repeat("n", 64), strings.Repeat("n", 65)))
	case reflect.Int:
		v.SetInt(int64(m.Intn(9) - 1))
	case reflect.Bool:
		v.SetBool(!v.Bool())
	case reflect.Slice:
		m.turnList(v)
	}
}

func (m chance) turnList(v reflect.Value) {
	n := v.Len()
	switch m.Intn(4) {
	case 0:
		v.Set(reflect.MakeSlice(v.Type(), m.Intn(3), 20))
	case 1:
		v.Set(v.Slice(0, n-m.Intn(n+1)))
	case 2:
		v.Set(reflect.Append(v.Slice3(0, n, n), reflect.Zero(v.Type().Elem())))
	case 3:
		for i := 0; n > 0 && i < 1+m.Intn(90); i++ {
			v.Set(reflect.Append(v.Slice3(0, v.Len(), v.Len()), deepCopy(v.Index(m.Intn(n)), 0)))
		}
	}
}

// lists: where all lists lie that can be written to.
func lists(v reflect.Value) []uintptr {
	var at []uintptr
	switch v.Kind() {
	case reflect.Struct:
		for i := range v.NumField() {
			at = append(at, lists(v.Field(i))...)
		}
	case reflect.Slice:
		if v.Cap() > 0 {
			at = append(at, v.Pointer())
		}
		for i := range v.Len() {
			at = append(at, lists(v.Index(i))...)
		}
	}
	return at
}

// R4: a program is the same behind a call as ahead of it, also where it answers an error; an answer has no list in common with it, nor one twice.
func TestHandedIn(t *testing.T) {
	for seed := range int64(1500) {
		m := newChance(seed)
		p := m.prog()
		for range m.Intn(2) {
			m.turn(&p)
		}
		handed := deepCopy(reflect.ValueOf(p), 3).Interface().(api.Prog)
		ahead := copied(handed)
		answers := []api.Prog{}
		flat, f := Flatten(handed)
		answers = append(answers, flat)
		for _, name := range names(p) {
			body, _ := Whole(handed, name)
			answers = append(answers, body)
		}
		Flat(handed)
		if !alike(reflect.ValueOf(handed), reflect.ValueOf(ahead)) || !untouched(reflect.ValueOf(handed)) {
			t.Fatalf("%v turned its program: %+v, it was %+v", f, handed, ahead)
		}
		seen := map[uintptr]bool{}
		for _, at := range lists(reflect.ValueOf(handed)) {
			seen[at] = true
		}
		for i, answer := range answers {
			for _, at := range lists(reflect.ValueOf(answer)) {
				if seen[at] {
					t.Fatalf("answer %d has a list in common: %+v", i, answer)
				}
				seen[at] = true
			}
		}
	}
}

// R3, R4: one program may be made flat by several at one time.
func TestShared(t *testing.T) {
	p := newChance(7).prog()
	want, fault := Flatten(p)
	var group sync.WaitGroup
	for range 8 {
		group.Go(func() {
			for range 50 {
				if got, f := Flatten(p); f != fault || !same(got, want) {
					t.Errorf("%+v %v, want %+v %v", got, f, want, fault)
				}
			}
		})
	}
	group.Wait()
}
