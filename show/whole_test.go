package show

import (
	"fmt"
	"math"
	"math/rand"
	"reflect"
	"slices"
	"strings"
	"sync"
	"testing"

	"vestry/api"
	"vestry/lex"
	"vestry/syn"
)

// maker makes programs by chance.
type maker struct{ *rand.Rand }

func newMaker(seed int64) maker { return maker{rand.New(rand.NewSource(seed))} }

func (m maker) some(n int) bool { return m.Intn(n) == 0 }

func (m maker) pick(from ...string) string { return from[m.Intn(len(from))] }

func (m maker) word() string {
	return m.pick("a", "x", "Y9", "_z", "__", "input", "output", "number", "long_word_1")
}

func (m maker) name() string {
	return m.pick("p", "q", "_", "a.b", "c._.d", "input", "output.x", "output")
}

// many makes from some to many things.
func many[T any](m maker, least, most int, one func() T) []T {
	all := make([]T, least+m.Intn(most-least+1))
	for i := range all {
		all[i] = one()
	}
	return all
}

func (m maker) prog(deep int) api.Prog {
	p := api.Prog{
		Types:   many(m, 0, 2, m.typeDecl),
		Decls:   many(m, 0, 2, m.decl),
		Inits:   many(m, 0, 2, func() api.Init { return api.Init{Name: m.word(), Comp: m.name(), At: m.Int()} }),
		Clauses: many(m, 0, 3, m.clause),
	}
	if deep > 0 {
		p.Comps = many(m, 0, 2, func() api.Comp {
			return api.Comp{Name: m.word(), Bases: many(m, 0, 3, m.name), Body: m.prog(deep - 1), At: m.Int()}
		})
	}
	return p
}

func (m maker) typeDecl() api.TypeDecl {
	if m.some(2) {
		return api.TypeDecl{Name: m.word(), Sub: m.name(), At: m.Int()}
	}
	return api.TypeDecl{Name: m.word(), At: m.Int(), Ctors: many(m, 1, 3, func() api.Ctor {
		return api.Ctor{Name: m.word(), Fields: many(m, 0, 8, m.field)}
	})}
}

func (m maker) field() api.Field { return api.Field{Name: m.word(), Type: m.name()} }

func (m maker) decl() api.Decl {
	return api.Decl{Name: m.word(), Cols: many(m, 0, 8, m.field), Input: m.some(2), Output: m.some(2), At: m.Int()}
}

func (m maker) clause() api.Clause {
	return api.Clause{Head: m.atom(), Body: many(m, 0, 4, m.lit), At: m.Int()}
}

func (m maker) atom() api.Atom {
	return api.Atom{Rel: m.name(), Args: many(m, 0, 4, func() api.Expr { return m.expr(3) }), At: m.Int()}
}

func (m maker) lit() api.Lit {
	switch m.Intn(3) {
	case 0:
		return api.Lit{Kind: api.LAtom, Atom: m.atom(), At: m.Int()}
	case 1:
		return api.Lit{Kind: api.LNot, Atom: m.atom(), At: m.Int()}
	}
	return api.Lit{Kind: api.LCmp, Op: m.pick("=", "!=", "<", "<=", ">", ">="), L: m.expr(3), R: m.expr(3), At: m.Int()}
}

func (m maker) expr(deep int) api.Expr {
	kind := m.Intn(6)
	if deep == 0 {
		kind = m.Intn(4)
	}
	kid := func() api.Expr { return m.expr(deep - 1) }
	switch kind {
	case 0:
		return api.Expr{Kind: api.EVar, S: m.word(), At: m.Int()}
	case 1:
		return api.Expr{Kind: api.ENum, N: []int{0, 1, -1, 7, -70, math.MaxInt64, -math.MaxInt64}[m.Intn(7)], At: m.Int()}
	case 2:
		return api.Expr{Kind: api.EText, S: m.pick("", "a", `"`, `\`, "\n", "\t", "\r \x00\xff", "// p().", "\\n\"\t", "/*"), At: m.Int()}
	case 3:
		return api.Expr{Kind: api.EAny, At: m.Int()}
	case 4:
		return api.Expr{Kind: api.EOp, S: m.pick("+", "-", "*", "/", "%"), Kids: many(m, 2, 2, kid), At: m.Int()}
	}
	return api.Expr{Kind: api.ECon, S: m.word(), Kids: many(m, 0, 3, kid), At: m.Int()}
}

// joined: the texts of all parts, with a text between.
func joined[T any](parts []T, between string, of func(T) string) string {
	var all []string
	for _, part := range parts {
		all = append(all, of(part))
	}
	return strings.Join(all, between)
}

// The text of a program that may be, form by form as the document's table has them.
func progText(p api.Prog) string {
	line := func(s string) string { return s + "\n" }
	return joined(p.Types, "", func(d api.TypeDecl) string { return line(typeText(d)) }) +
		joined(p.Decls, "", func(d api.Decl) string { return line(declText(d)) }) +
		joined(p.Comps, "", func(c api.Comp) string {
			bases := ""
			if len(c.Bases) > 0 {
				bases = " : " + strings.Join(c.Bases, ", ")
			}
			return line(fmt.Sprintf(".comp %s%s {\n%s}", c.Name, bases, progText(c.Body)))
		}) +
		joined(p.Inits, "", func(i api.Init) string { return line(fmt.Sprintf(".init %s = %s", i.Name, i.Comp)) }) +
		joined(p.Clauses, "", func(c api.Clause) string {
			body := ""
			if len(c.Body) > 0 {
				body = " :- " + joined(c.Body, ", ", litText)
			}
			return line(atomText(c.Head) + body + ".")
		})
}

func typeText(d api.TypeDecl) string {
	if d.Sub != "" {
		return fmt.Sprintf(".type %s <: %s", d.Name, d.Sub)
	}
	return fmt.Sprintf(".type %s = %s", d.Name, joined(d.Ctors, " | ", func(c api.Ctor) string {
		return fmt.Sprintf("%s {%s}", c.Name, joined(c.Fields, ", ", fieldText))
	}))
}

func fieldText(f api.Field) string { return f.Name + ": " + f.Type }

func declText(d api.Decl) string {
	words := map[bool]string{true: " input"}[d.Input] + map[bool]string{true: " output"}[d.Output]
	return fmt.Sprintf(".decl %s(%s)%s", d.Name, joined(d.Cols, ", ", fieldText), words)
}

func atomText(a api.Atom) string { return fmt.Sprintf("%s(%s)", a.Rel, joined(a.Args, ", ", exprText)) }

func litText(l api.Lit) string {
	switch l.Kind {
	case api.LAtom:
		return atomText(l.Atom)
	case api.LNot:
		return "!" + atomText(l.Atom)
	}
	return fmt.Sprintf("%s %s %s", exprText(l.L), l.Op, exprText(l.R))
}

func exprText(x api.Expr) string {
	switch x.Kind {
	case api.EVar:
		return x.S
	case api.ENum:
		return fmt.Sprint(x.N)
	case api.EText:
		return `"` + strings.NewReplacer(`"`, `\"`, `\`, `\\`, "\n", `\n`, "\t", `\t`).Replace(x.S) + `"`
	case api.EAny:
		return "_"
	case api.EOp:
		return joined(x.Kids, " "+x.S+" ", func(k api.Expr) string {
			if k.Kind == api.EOp {
				return "(" + exprText(k) + ")"
			}
			return exprText(k)
		})
	}
	return fmt.Sprintf("$%s(%s)", x.S, joined(x.Kids, ", ", exprText))
}

// all: whether each part may be.
func all[T any](parts []T, most int, may func(T) bool) bool {
	return len(parts) <= most && !slices.ContainsFunc(parts, func(part T) bool { return !may(part) })
}

func isWord(s string) bool { return lex.Word(s) && s != "_" }

func items(p api.Prog) int {
	n := len(p.Types) + len(p.Decls) + len(p.Comps) + len(p.Inits) + len(p.Clauses)
	for _, c := range p.Comps {
		n += items(c.Body)
	}
	return n
}

// mayProg: whether a text is read as a program, depth and number of items aside.
func mayProg(p api.Prog) bool {
	return all(p.Types, math.MaxInt, func(d api.TypeDecl) bool {
		sum := len(d.Ctors) > 0 && all(d.Ctors, math.MaxInt, func(c api.Ctor) bool { return isWord(c.Name) && all(c.Fields, api.MaxWidth, mayField) })
		return isWord(d.Name) && (d.Sub == "" && sum || lex.Name(d.Sub) && len(d.Ctors) == 0)
	}) && all(p.Decls, math.MaxInt, func(d api.Decl) bool {
		return isWord(d.Name) && all(d.Cols, api.MaxWidth, mayField)
	}) && all(p.Comps, math.MaxInt, func(c api.Comp) bool {
		return isWord(c.Name) && all(c.Bases, math.MaxInt, lex.Name) && mayProg(c.Body)
	}) && all(p.Inits, math.MaxInt, func(i api.Init) bool {
		return isWord(i.Name) && lex.Name(i.Comp)
	}) && all(p.Clauses, math.MaxInt, func(c api.Clause) bool {
		return mayAtom(c.Head) && all(c.Body, api.MaxBody, mayLit)
	})
}

func mayField(f api.Field) bool { return isWord(f.Name) && lex.Name(f.Type) }

func mayAtom(a api.Atom) bool { return lex.Name(a.Rel) && all(a.Args, api.MaxWidth, mayExpr) }

func noExpr(x api.Expr) bool { return x.Kind == 0 && x.N == 0 && x.S == "" && len(x.Kids) == 0 }

func mayLit(l api.Lit) bool {
	switch l.Kind {
	case api.LAtom, api.LNot:
		return mayAtom(l.Atom) && l.Op == "" && noExpr(l.L) && noExpr(l.R)
	case api.LCmp:
		signs := []string{"=", "!=", "<", "<=", ">", ">="}
		return l.Atom.Rel == "" && len(l.Atom.Args) == 0 && slices.Contains(signs, l.Op) && mayExpr(l.L) && mayExpr(l.R)
	}
	return false
}

func mayExpr(x api.Expr) bool {
	switch x.Kind {
	case api.EVar:
		return x.N == 0 && isWord(x.S) && len(x.Kids) == 0
	case api.ENum:
		return x.N != math.MinInt64 && x.S == "" && len(x.Kids) == 0
	case api.EText:
		return x.N == 0 && len(x.Kids) == 0
	case api.EAny:
		return x.N == 0 && x.S == "" && len(x.Kids) == 0
	case api.EOp:
		return x.N == 0 && len(x.S) == 1 && strings.Contains("+-*/%", x.S) && len(x.Kids) == 2 && all(x.Kids, 2, mayExpr)
	case api.ECon:
		return x.N == 0 && isWord(x.S) && all(x.Kids, api.MaxWidth, mayExpr)
	}
	return false
}

// copied: a program that shares nothing with the one that is handed in.
func copied[T any](x T) T {
	return deepCopy(reflect.ValueOf(x)).Interface().(T)
}

func deepCopy(v reflect.Value) reflect.Value {
	twin := reflect.New(v.Type()).Elem()
	twin.Set(v)
	switch v.Kind() {
	case reflect.Struct:
		for i := range v.NumField() {
			twin.Field(i).Set(deepCopy(v.Field(i)))
		}
	case reflect.Slice:
		if v.IsNil() {
			return twin
		}
		twin.Set(reflect.MakeSlice(v.Type(), v.Len(), v.Len()))
		for i := range v.Len() {
			twin.Index(i).Set(deepCopy(v.Index(i)))
		}
	}
	return twin
}

// places: all parts of a program that can be turned.
func places(v reflect.Value) []reflect.Value {
	var found []reflect.Value
	switch v.Kind() {
	case reflect.Struct:
		for i := range v.NumField() {
			found = append(found, places(v.Field(i))...)
		}
	case reflect.Slice:
		found = append(found, v)
		for i := range v.Len() {
			found = append(found, places(v.Index(i))...)
		}
	default:
		found = append(found, v)
	}
	return found
}

// turn turns one part of a program.
func (m maker) turn(p *api.Prog) {
	found := places(reflect.ValueOf(p).Elem())
	v := found[m.Intn(len(found))]
	switch v.Kind() {
	case reflect.String:
		v.SetString(m.pick("", "_", "a", "a.b", "1", "+", "%", "<", ">=", " ", "a b", "x, y", "x + y", "\"", "\\", "\n", "p(). q", "()", "//", "/*", "a.", "-1", "input", strings.Repeat("n", 64), strings.Repeat("n", 65)))
	case reflect.Int:
		v.SetInt(int64([]int{-1, 0, 1, 2, 3, 4, 5, 6, 7, math.MaxInt64, math.MinInt64}[m.Intn(11)]))
	case reflect.Bool:
		v.SetBool(!v.Bool())
	case reflect.Slice:
		m.turnList(v)
	}
}

func (m maker) turnList(v reflect.Value) {
	n := v.Len()
	switch m.Intn(4) {
	case 0:
		v.Set(reflect.MakeSlice(v.Type(), m.Intn(20), 20))
	case 1:
		v.Set(v.Slice(0, n-m.Intn(n+1)))
	case 2:
		v.Set(reflect.Append(v.Slice3(0, n, n), reflect.Zero(v.Type().Elem())))
	case 3:
		for i := 0; n > 0 && i < 1+m.Intn(18); i++ {
			v.Set(reflect.Append(v.Slice3(0, v.Len(), v.Len()), deepCopy(v.Index(m.Intn(n)))))
		}
	}
}

// answers: what Show answers of a program whose depth layer 9 reads.
func answers(t *testing.T, p api.Prog) (string, api.Errno) {
	t.Helper()
	got, e := Show(p)
	want, why := "", api.ErrArg
	if mayProg(p) && items(p) <= api.MaxRules {
		want, why = progText(p), api.OK
	}
	if len(want) > api.MaxText {
		want, why = "", api.ErrLong
	}
	if got != want || e != why {
		t.Fatalf("%.900q %v, want %.900q %v, of %.2000s", got, e, want, why, fmt.Sprintf("%+v", p))
	}
	return got, e
}

// P10.1, P10.3, P10.4: programs by chance have the text that the document's table says, which is read as the same program and laid out as it is.
func TestWhole(t *testing.T) {
	for seed := range int64(3000) {
		m := newMaker(seed)
		p := m.prog(m.Intn(4))
		s, e := answers(t, p)
		if e != api.OK {
			continue
		}
		if again, fault := syn.Parse(s); fault != (api.Fault{}) || !syn.Same(again, p) {
			t.Fatalf("%q is read as another program, %v", s, fault)
		}
		formats(t, s, s)
	}
}

// P10.1, P10.3: programs of which some parts are turned have their text, if it is read as them, and else are ErrArg.
func TestTurned(t *testing.T) {
	counts := map[api.Errno]int{}
	for seed := range int64(6000) {
		m := newMaker(seed)
		p := m.prog(m.Intn(3))
		for range 1 + m.Intn(2) {
			m.turn(&p)
		}
		s, e := answers(t, p)
		counts[e]++
		if e != api.OK {
			continue
		}
		if again, fault := syn.Parse(s); fault != (api.Fault{}) || !syn.Same(again, p) {
			t.Fatalf("%q is read as another program, %v", s, fault)
		}
	}
	if counts[api.OK] < 500 || counts[api.ErrArg] < 500 {
		t.Errorf("too few of a kind to tell: %v", counts)
	}
}

// respaced: the tokens of a text with other gaps between them, and a token of them, now and then, gone, twice there or in another's place.
func (m maker) respaced(s string) string {
	toks, _ := lex.Tokens(s)
	var pieces []string
	for i, tok := range toks {
		end := len(s)
		if i+1 < len(toks) {
			end = toks[i+1].At
		}
		pieces = append(pieces, strings.TrimRight(s[tok.At:end], " \n"))
	}
	if len(pieces) > 0 && m.some(3) {
		i := m.Intn(len(pieces))
		switch m.Intn(3) {
		case 0:
			pieces = slices.Delete(pieces, i, i+1)
		case 1:
			pieces = slices.Insert(pieces, i, pieces[i])
		case 2:
			pieces[i] = pieces[m.Intn(len(pieces))]
		}
	}
	text := ""
	for _, piece := range pieces {
		text += piece + m.pick(" ", " ", "\n", "\t\r ", " // (\n", " /* ) */")
	}
	return text
}

// P10.2, P10.4: a text's fault is layer 9's; else its program's text, which is laid out as it is.
func TestFormats(t *testing.T) {
	taken := 0
	for seed := range int64(3000) {
		m := newMaker(seed)
		s := m.respaced(progText(m.prog(m.Intn(3))))
		read, fault := syn.Parse(s)
		got, told := Format(s)
		switch {
		case fault.Why != api.OK:
			if got != "" || told != fault {
				t.Fatalf("%q: %q %v, want %v", s, got, told, fault)
			}
		case got != progText(read) || told != (api.Fault{}):
			t.Fatalf("%q: %q %v, want %q", s, got, told, progText(read))
		default:
			taken++
		}
		if again, fault := Format(got); again != got || fault != (api.Fault{}) {
			t.Fatalf("%q: %q %v, want it as it was", got, again, fault)
		}
	}
	if taken < 1000 {
		t.Errorf("too few to tell: %d", taken)
	}
}

// P10.4: also where a text is refused, what is answered is laid out as it is.
func TestFormatOfNothing(t *testing.T) {
	for _, s := range []string{"", "?", "p(", "p(" + strings.Repeat("1+", 30000) + "1).", "p(" + strings.Repeat("1+", 100) + "1)."} {
		got, _ := Format(s)
		formats(t, got, got)
	}
}

// roomy: a copy of a program whose lists have room behind their ends, all of it zero.
func roomy(v reflect.Value) reflect.Value {
	twin := reflect.New(v.Type()).Elem()
	twin.Set(v)
	switch v.Kind() {
	case reflect.Struct:
		for i := range v.NumField() {
			twin.Field(i).Set(roomy(v.Field(i)))
		}
	case reflect.Slice:
		list := reflect.MakeSlice(v.Type(), v.Len()+3, v.Len()+3)
		for i := range v.Len() {
			list.Index(i).Set(roomy(v.Index(i)))
		}
		twin.Set(list.Slice(0, v.Len()))
	}
	return twin
}

// untouched: whether what lies behind the ends of all lists is still zero.
func untouched(v reflect.Value) bool {
	switch v.Kind() {
	case reflect.Struct:
		for i := range v.NumField() {
			if !untouched(v.Field(i)) {
				return false
			}
		}
	case reflect.Slice:
		whole := v.Slice(0, v.Cap())
		for i := range whole.Len() {
			if i >= v.Len() && !whole.Index(i).IsZero() || !untouched(whole.Index(i)) {
				return false
			}
		}
	}
	return true
}

// R4: programs are the same behind a call as ahead of it, also where it answers an error, and the text hangs on them no more.
func TestHandedIn(t *testing.T) {
	for seed := range int64(1500) {
		m := newMaker(seed)
		p := m.prog(2)
		for range m.Intn(2) {
			m.turn(&p)
		}
		if m.some(20) {
			p.Clauses = append(p.Clauses, clause(atom(strings.Repeat("x", api.MaxText))))
		}
		handed := roomy(reflect.ValueOf(p)).Interface().(api.Prog)
		ahead := copied(handed)
		s, e := Show(handed)
		if !reflect.DeepEqual(handed, ahead) || !untouched(reflect.ValueOf(handed)) {
			t.Fatalf("%v turned its program: %+v, it was %+v", e, handed, ahead)
		}
		was := strings.Clone(s)
		for _, v := range places(reflect.ValueOf(&handed).Elem()) {
			v.SetZero()
		}
		if s != was {
			t.Fatalf("the text was %q, and is %q", was, s)
		}
		if again, f := Show(ahead); again != s || f != e {
			t.Fatalf("another answer of the same program: %q %v, %q %v", s, e, again, f)
		}
	}
}

// R3, R4: one program may be shown by several at one time.
func TestShared(t *testing.T) {
	p := newMaker(7).prog(2)
	want, e := Show(p)
	var group sync.WaitGroup
	for range 8 {
		group.Go(func() {
			for range 50 {
				if got, f := Show(p); got != want || f != e {
					t.Errorf("%q %v, want %q %v", got, f, want, e)
				}
			}
		})
	}
	group.Wait()
}
