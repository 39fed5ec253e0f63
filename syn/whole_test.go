package syn

import (
	"fmt"
	"math/rand"
	"reflect"
	"slices"
	"strconv"
	"strings"
	"testing"

	"vestry/api"
)

// writer writes programs by chance, and tells what they are.
type writer struct {
	random *rand.Rand
	text   strings.Builder
	toks   []string
	places []int
}

func newWriter(random *rand.Rand) *writer { return &writer{random: random} }

func (w *writer) pick(from ...string) string { return from[w.random.Intn(len(from))] }

func (w *writer) some(n int) bool { return w.random.Intn(n) == 0 }

// put writes a token, a gap ahead of it, and tells its place.
func (w *writer) put(tok string) int {
	alone := func(s string) bool { return strings.Contains("(){},", s) }
	if len(w.toks) == 0 || !alone(tok) && !alone(w.toks[len(w.toks)-1]) || w.some(3) {
		w.text.WriteString(w.pick(" ", " ", "\n", "\t \r", " /* ) */", " // (\n", " /*/*/ "))
	}
	at := w.text.Len()
	w.text.WriteString(tok)
	w.toks, w.places = append(w.toks, tok), append(w.places, at)
	return at
}

func (w *writer) word() string {
	word := w.pick("a", "x", "Y9", "_z", "__", "input", "output", "number", "long_word_1")
	w.put(word)
	return word
}

func (w *writer) name() string {
	name := w.pick("p", "q", "_", "a.b", "c._.d", "input", "output.x")
	w.put(name)
	return name
}

// listed writes some parts, with a sign between them.
func listed[T any](w *writer, least, most int, between string, part func() T) []T {
	var all []T
	for n := least + w.random.Intn(most-least+1); len(all) < n; {
		if len(all) > 0 {
			w.put(between)
		}
		all = append(all, part())
	}
	return all
}

func (w *writer) prog(deep, most int) api.Prog {
	var p api.Prog
	for range w.random.Intn(most + 1) {
		switch w.random.Intn(6) {
		case 0:
			p.Types = append(p.Types, w.typeDecl())
		case 1:
			p.Decls = append(p.Decls, w.decl())
		case 2:
			p.Inits = append(p.Inits, w.instance())
		case 3:
			if deep > 0 {
				p.Comps = append(p.Comps, w.comp(deep, most))
			}
		default:
			p.Clauses = append(p.Clauses, w.clause())
		}
	}
	return p
}

func (w *writer) typeDecl() api.TypeDecl {
	d := api.TypeDecl{At: w.put(".type"), Name: w.word()}
	if w.some(2) {
		w.put("<:")
		d.Sub = w.name()
		return d
	}
	w.put("=")
	d.Ctors = listed(w, 1, 3, "|", func() api.Ctor {
		c := api.Ctor{Name: w.word()}
		w.put("{")
		c.Fields = listed(w, 0, 8, ",", w.field)
		w.put("}")
		return c
	})
	return d
}

func (w *writer) field() api.Field {
	f := api.Field{Name: w.word()}
	w.put(":")
	f.Type = w.name()
	return f
}

func (w *writer) decl() api.Decl {
	d := api.Decl{At: w.put(".decl"), Name: w.word()}
	w.put("(")
	d.Cols = listed(w, 0, 8, ",", w.field)
	w.put(")")
	for range w.random.Intn(3) {
		if w.some(2) {
			w.put("input")
			d.Input = true
		} else {
			w.put("output")
			d.Output = true
		}
	}
	return d
}

func (w *writer) comp(deep, most int) api.Comp {
	c := api.Comp{At: w.put(".comp"), Name: w.word()}
	if w.some(2) {
		w.put(":")
		c.Bases = listed(w, 1, 3, ",", w.name)
	}
	w.put("{")
	c.Body = w.prog(deep-1, most)
	w.put("}")
	return c
}

func (w *writer) instance() api.Init {
	i := api.Init{At: w.put(".init"), Name: w.word()}
	w.put("=")
	i.Comp = w.name()
	return i
}

func (w *writer) clause() api.Clause {
	head := w.atom()
	c := api.Clause{Head: head, At: head.At}
	if w.some(2) {
		w.put(":-")
		c.Body = listed(w, 1, 5, ",", w.lit)
	}
	w.put(".")
	return c
}

func (w *writer) atom() api.Atom {
	name := w.pick("p", "q", "_", "a.b", "c._.d", "input", "output")
	a := api.Atom{Rel: name, At: w.put(name)}
	w.put("(")
	a.Args = listed(w, 0, 4, ",", func() api.Expr { return w.expr(2) })
	w.put(")")
	return a
}

func (w *writer) lit() api.Lit {
	switch w.random.Intn(3) {
	case 0:
		l := api.Lit{Kind: api.LNot, At: w.put("!")}
		l.Atom = w.atom()
		return l
	case 1:
		a := w.atom()
		return api.Lit{Kind: api.LAtom, Atom: a, At: a.At}
	}
	l := api.Lit{Kind: api.LCmp}
	first := len(w.toks)
	l.L = w.expr(2)
	l.At = w.places[first]
	l.Op = w.pick("=", "!=", "<", "<=", ">", ">=")
	w.put(l.Op)
	l.R = w.expr(2)
	return l
}

// joined writes operands with operators between.
func (w *writer) joined(operand func() api.Expr, signs ...string) api.Expr {
	x := operand()
	for w.some(4) {
		sign := w.pick(signs...)
		w.put(sign)
		x = op(sign, x.At, x, operand())
	}
	return x
}

func (w *writer) expr(deep int) api.Expr {
	return w.joined(func() api.Expr {
		return w.joined(func() api.Expr { return w.factor(deep) }, "*", "/", "%")
	}, "+", "-")
}

func (w *writer) factor(deep int) api.Expr {
	kind := w.random.Intn(8)
	if deep == 0 {
		kind %= 5
	}
	switch kind {
	case 0:
		n := w.random.Intn(1000)
		return number(n, w.put(strconv.Itoa(n)))
	case 1:
		quoted := w.pick(`""`, `"a\"\\\n\t"`, `"// p(). /*"`)
		return text(map[int]string{2: "", 11: "a\"\\\n\t", 12: "// p(). /*"}[len(quoted)], w.put(quoted))
	case 2:
		word := w.pick("x", "y", "input", "_1")
		return variable(word, w.put(word))
	case 3:
		return anyone(w.put("_"))
	case 4:
		at, n := w.put("-"), w.random.Intn(1000)
		w.put(strconv.Itoa(n))
		return number(-n, at)
	case 5:
		w.put("(")
		x := w.expr(deep - 1)
		w.put(")")
		return x
	case 6:
		at := w.put("$")
		x := con(w.word(), at)
		w.put("(")
		x.Kids = listed(w, 0, 3, ",", func() api.Expr { return w.expr(deep - 1) })
		w.put(")")
		return x
	}
	at := w.put("-")
	// A word keeps a number from standing directly behind.
	if w.some(2) {
		return op("-", at, number(0, at), variable("v", w.put("v")))
	}
	w.put("(")
	x := w.expr(deep - 1)
	w.put(")")
	return op("-", at, number(0, at), x)
}

// written: a program by chance, with its text and its tokens.
func written(random *rand.Rand, most int) (api.Prog, string, []string) {
	w := newWriter(random)
	p := w.prog(2, most)
	return p, w.text.String(), w.toks
}

// P9.1: programs that were written by the grammar are read as what they are, with all places.
func TestWritten(t *testing.T) {
	random := rand.New(rand.NewSource(1))
	for range 1500 {
		p, s, _ := written(random, 5)
		has(t, s, p)
		if t.Failed() {
			return
		}
	}
}

// P9.4: with other gaps a program is the same but for At.
func TestGaps(t *testing.T) {
	random := rand.New(rand.NewSource(2))
	for range 500 {
		p, s, toks := written(random, 5)
		for _, gap := range []string{" ", "\n", " /* .decl a() */ ", " // )\n"} {
			other, fault := Parse(gap + strings.Join(toks, gap) + gap)
			if fault != (api.Fault{}) || !Same(p, other) || !reflect.DeepEqual(placed(p, nil), placed(other, nil)) {
				t.Fatalf("%q with other gaps: %v, want %.900v", s, fault, p)
			}
		}
	}
}

// P9.5: two texts one behind the other have the items of both.
func TestTwoTexts(t *testing.T) {
	random := rand.New(rand.NewSource(3))
	for range 500 {
		p, s, _ := written(random, 4)
		q, u, _ := written(random, 4)
		// A text that ends with a comment's line is not to swallow the other one.
		both, fault := Parse(s + "\n" + u)
		shift := func(at int) int { return at + len(s) + 1 }
		q = placed(q, shift)
		want := api.Prog{
			Types: append(p.Types, q.Types...), Decls: append(p.Decls, q.Decls...), Comps: append(p.Comps, q.Comps...),
			Inits: append(p.Inits, q.Inits...), Clauses: append(p.Clauses, q.Clauses...),
		}
		if fault != (api.Fault{}) || !reflect.DeepEqual(both, want) {
			t.Fatalf("%q and %q: %v, want %.900v", s, u, fault, want)
		}
	}
}

// P9.5: where one text ends with a relation and the other one begins with an input's atom, they are still two items.
func TestTwoTextsInput(t *testing.T) {
	has(t, ".decl e() input\ninput().", api.Prog{
		Decls: []api.Decl{{Name: "e", Input: true}}, Clauses: []api.Clause{clause(atom("input", 16))},
	})
	many := strings.Repeat("p(). ", 48)
	taken(t, many+many)
	fails(t, many+many+"^p().", api.ErrMany)
}

// placed: a copy of a program, each At as the function says (0, if there is none).
func placed(p api.Prog, place func(int) int) api.Prog {
	out := deepCopy(reflect.ValueOf(p)).Interface().(api.Prog)
	eachLeaf(reflect.ValueOf(&out).Elem(), "", func(path string, v reflect.Value) {
		if strings.HasSuffix(path, ".At") {
			at := 0
			// What a Lit has none of has no place.
			if place != nil && !strings.Contains(path, "!") {
				at = place(int(v.Int()))
			}
			v.SetInt(int64(at))
		}
	})
	return out
}

// eachLeaf: each number, text and truth in a value, with its path; what a Lit of its kind has none of has a `!` in it.
func eachLeaf(v reflect.Value, path string, visit func(string, reflect.Value)) {
	switch v.Kind() {
	case reflect.Struct:
		for i := range v.NumField() {
			name := v.Type().Field(i).Name
			if lit, is := v.Interface().(api.Lit); is {
				if compared := lit.Kind == api.LCmp; compared && name == "Atom" || !compared && (name == "L" || name == "R") {
					name = "!" + name
				}
			}
			eachLeaf(v.Field(i), path+"."+name, visit)
		}
	case reflect.Slice:
		for i := range v.Len() {
			eachLeaf(v.Index(i), fmt.Sprint(path, "[", i, "]"), visit)
		}
	default:
		visit(path, v)
	}
}

// eachList: each list in a value, with its path.
func eachList(v reflect.Value, path string, visit func(string, reflect.Value)) {
	switch v.Kind() {
	case reflect.Struct:
		for i := range v.NumField() {
			eachList(v.Field(i), path+"."+v.Type().Field(i).Name, visit)
		}
	case reflect.Slice:
		visit(path, v)
		for i := range v.Len() {
			eachList(v.Index(i), fmt.Sprint(path, "[", i, "]"), visit)
		}
	}
}

func deepCopy(v reflect.Value) reflect.Value {
	out := reflect.New(v.Type()).Elem()
	switch v.Kind() {
	case reflect.Struct:
		for i := range v.NumField() {
			out.Field(i).Set(deepCopy(v.Field(i)))
		}
	case reflect.Slice:
		if !v.IsNil() {
			out.Set(reflect.MakeSlice(v.Type(), v.Len(), v.Len()))
		}
		for i := range v.Len() {
			out.Index(i).Set(deepCopy(v.Index(i)))
		}
	default:
		out.Set(v)
	}
	return out
}

// alter makes a leaf another one.
func alter(v reflect.Value) {
	switch v.Kind() {
	case reflect.Int:
		v.SetInt(v.Int() + 1)
	case reflect.String:
		v.SetString(v.String() + "a")
	case reflect.Bool:
		v.SetBool(!v.Bool())
	}
}

// full is a program that has something of everything, a component in a component too.
func full(t *testing.T) api.Prog {
	items := `.type A <: b .type T = L {} | N {v: number, l: T} .decl e(a: x, b: y) input .decl f() output .init i = C .init j = d.D
		p(x, -1, "a", _, 1 + x * 2, $A(1, $B(x))) :- q(x), !r(x, y), x - 1 < -y. p(). `
	p, fault := Parse(items + ".comp C : D, E { " + items + ".comp F : G { " + items + "} } .comp H {}")
	if fault != (api.Fault{}) {
		t.Fatal(fault)
	}
	return p
}

// P9.2: a program is the same as a copy; with one number, text or truth changed it is not, but an At turns nothing.
func TestSameLeaves(t *testing.T) {
	p := full(t)
	leaves := 0
	if !Same(p, deepCopy(reflect.ValueOf(p)).Interface().(api.Prog)) {
		t.Error("a copy is not the same")
	}
	count := func(string, reflect.Value) { leaves++ }
	eachLeaf(reflect.ValueOf(p), "", count)
	for n := range leaves {
		other := deepCopy(reflect.ValueOf(p)).Interface().(api.Prog)
		at, where := 0, ""
		eachLeaf(reflect.ValueOf(&other).Elem(), "", func(path string, v reflect.Value) {
			if at == n {
				alter(v)
				where = path
			}
			at++
		})
		if want := strings.HasSuffix(where, ".At"); Same(p, other) != want || Same(other, p) != want {
			t.Errorf("with another %s: %v, want %v", where, !want, want)
		}
	}
	if leaves < 400 {
		t.Errorf("%d leaves", leaves)
	}
}

// P9.2: with one list that is shorter, longer or in another order a program is not the same; an empty one is as none.
func TestSameLists(t *testing.T) {
	p := full(t)
	lists := 0
	eachList(reflect.ValueOf(p), "", func(string, reflect.Value) { lists++ })
	for n := range lists {
		for _, way := range []string{"shorter", "longer", "turned", "emptied", "empty"} {
			other := deepCopy(reflect.ValueOf(p)).Interface().(api.Prog)
			at, where, want := 0, "", false
			eachList(reflect.ValueOf(&other).Elem(), "", func(path string, v reflect.Value) {
				if at == n {
					where = path
					want = relist(v, way)
				}
				at++
			})
			if Same(p, other) != want || Same(other, p) != want {
				t.Errorf("with %s %s: %v, want %v", where, way, !want, want)
			}
		}
	}
}

// relist changes a list, and tells whether it is still the same.
func relist(v reflect.Value, way string) bool {
	n := v.Len()
	switch {
	case way == "shorter" && n > 0:
		v.Set(v.Slice(0, n-1))
		return false
	case way == "longer":
		more := reflect.Zero(v.Type().Elem())
		if n > 0 {
			more = v.Index(n - 1)
		}
		v.Set(reflect.Append(v, more))
		return false
	case way == "turned" && n > 1:
		first, last := deepCopy(v.Index(0)), deepCopy(v.Index(n-1))
		v.Index(0).Set(last)
		v.Index(n - 1).Set(first)
		return reflect.DeepEqual(first.Interface(), last.Interface())
	case way == "emptied" && n > 0:
		v.Set(reflect.Zero(v.Type()))
		return false
	case way == "empty" && n == 0:
		v.Set(reflect.MakeSlice(v.Type(), 0, 3))
	}
	return true
}

// P9.2: programs by chance, the same or not.
func TestSameWritten(t *testing.T) {
	random := rand.New(rand.NewSource(4))
	var all []api.Prog
	for range 100 {
		p, _, _ := written(random, 2)
		all = append(all, p)
	}
	for _, p := range all {
		for _, q := range all {
			if want := reflect.DeepEqual(placed(p, nil), placed(q, nil)); Same(p, q) != want {
				t.Fatalf("%+v and %+v: %v, want %v", p, q, !want, want)
			}
		}
	}
	if !Same(api.Prog{}, api.Prog{}) {
		t.Error("the empty program is not the same as itself")
	}
}

// P9.2: what no text gives is held against each other all the same, and as deep as it may lie.
func TestSameOdd(t *testing.T) {
	odd := func(x api.Expr) api.Prog {
		return api.Prog{Clauses: []api.Clause{{Body: []api.Lit{{Kind: 9, L: x}}}}}
	}
	if !Same(odd(api.Expr{Kind: -1, N: 2, S: "\xff"}), odd(api.Expr{Kind: -1, N: 2, S: "\xff", At: 5})) {
		t.Error("odd programs are not the same")
	}
	if Same(odd(api.Expr{Kind: api.EVar, N: 2}), odd(api.Expr{Kind: api.EVar})) {
		t.Error("a variable with a number is one without")
	}
	chain := func(last string) api.Prog {
		x := api.Expr{Kind: api.EVar, S: last}
		for range 60000 {
			x = api.Expr{Kind: api.ECon, Kids: []api.Expr{x}}
		}
		return odd(x)
	}
	if !Same(chain("x"), chain("x")) || Same(chain("x"), chain("y")) {
		t.Error("long chains")
	}
	nest := func(last string) api.Prog {
		p := api.Prog{Inits: []api.Init{{Name: last}}}
		for range 60000 {
			p = api.Prog{Comps: []api.Comp{{Body: p}}}
		}
		return p
	}
	if !Same(nest("x"), nest("x")) || Same(nest("x"), nest("y")) {
		t.Error("deep components")
	}
}

// R4: Same writes into neither of its programs.
func TestSameWritesNothing(t *testing.T) {
	p, q := full(t), full(t)
	was := deepCopy(reflect.ValueOf(p)).Interface().(api.Prog)
	Same(p, q)
	if !reflect.DeepEqual(p, was) || !reflect.DeepEqual(q, was) {
		t.Error("a program is another one")
	}
}

// R3, R4: an answer that is written over turns no other, ahead of it or behind it.
func TestAnswersAreTheCallers(t *testing.T) {
	ahead := full(t)
	was := deepCopy(reflect.ValueOf(ahead)).Interface().(api.Prog)
	middle := full(t)
	eachList(reflect.ValueOf(&middle).Elem(), "", func(_ string, v reflect.Value) {
		v.SetCap(v.Len())
	})
	eachLeaf(reflect.ValueOf(&middle).Elem(), "", func(_ string, v reflect.Value) { alter(v) })
	if behind := full(t); !reflect.DeepEqual(ahead, was) || !reflect.DeepEqual(behind, was) {
		t.Error("another answer was turned")
	}
}

// R4: no two lists of an answer share memory, not even room that is left behind them.
func TestListsShareNothing(t *testing.T) {
	type span struct {
		from, to uintptr
		path     string
	}
	var spans []span
	p := full(t)
	eachList(reflect.ValueOf(p), "", func(path string, v reflect.Value) {
		if v.Cap() > 0 {
			from := v.Pointer()
			spans = append(spans, span{from, from + uintptr(v.Cap())*v.Type().Elem().Size(), path})
		}
	})
	slices.SortFunc(spans, func(a, b span) int {
		if a.from < b.from {
			return -1
		}
		return 1
	})
	for i := range len(spans) - 1 {
		if spans[i].to > spans[i+1].from {
			t.Errorf("%s and %s", spans[i].path, spans[i+1].path)
		}
	}
	if len(spans) < 30 {
		t.Errorf("%d lists", len(spans))
	}
}

// R1: a fault carries no program, wherever it is.
func TestNoProgramBesideAFault(t *testing.T) {
	random := rand.New(rand.NewSource(5))
	for range 80 {
		_, s, _ := written(random, 4)
		for end := range len(s) {
			if got, fault := Parse(s[:end]); fault.Why != api.OK && !reflect.DeepEqual(got, api.Prog{}) {
				t.Fatalf("%q: %+v beside %v", s[:end], got, fault)
			}
		}
	}
}
