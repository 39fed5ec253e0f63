package magic

import (
	"cmp"
	"fmt"
	"reflect"
	"slices"
	"sync"
	"testing"

	"vestry/api"
)

// roomy: a copy of a thing, with room behind the end of each list.
func roomy[T any](x T) T { return withRoom(reflect.ValueOf(x)).Interface().(T) }

func withRoom(v reflect.Value) reflect.Value {
	twin := reflect.New(v.Type()).Elem()
	switch v.Kind() {
	case reflect.Struct:
		for i := range v.NumField() {
			twin.Field(i).Set(withRoom(v.Field(i)))
		}
	case reflect.Slice:
		twin.Set(reflect.MakeSlice(v.Type(), v.Len(), v.Len()+2))
		for i := range v.Len() {
			twin.Index(i).Set(withRoom(v.Index(i)))
		}
	default:
		twin.Set(v)
	}
	return twin
}

// span is where a list lies, with its room.
type span struct{ from, to uintptr }

// look goes through a thing: it writes down what stands there, behind the ends of lists, too, and where these lie.
func look(v reflect.Value, text *[]byte, spans *[]span) {
	switch v.Kind() {
	case reflect.Struct:
		for i := range v.NumField() {
			look(v.Field(i), text, spans)
		}
	case reflect.Slice:
		*text = fmt.Appendf(*text, "%d[", v.Len())
		if v.Cap() > 0 {
			*spans = append(*spans, span{v.Pointer(), v.Pointer() + uintptr(v.Cap())*v.Type().Elem().Size()})
		}
		for i := range v.Cap() {
			look(v.Slice(0, v.Cap()).Index(i), text, spans)
		}
	default:
		*text = fmt.Appendf(*text, "%#v,", v)
	}
}

// all: what stands in a thing, behind the ends of lists, too.
func all(x any) string {
	var text []byte
	look(reflect.ValueOf(x), &text, new([]span))
	return string(text)
}

// shares: whether two lists of these things have room in common.
func shares(things ...any) bool {
	var spans []span
	for _, x := range things {
		look(reflect.ValueOf(x), new([]byte), &spans)
	}
	slices.SortFunc(spans, func(a, b span) int { return cmp.Compare(a.from, b.from) })
	for i := 1; i < len(spans); i++ {
		if spans[i].from < spans[i-1].to {
			return true
		}
	}
	return false
}

// R4: programs and questions are the same behind a call as ahead of it, and the answer shares nothing with them, nor one list of it with another one, whether it is turned or not.
func TestHandedIn(t *testing.T) {
	n := tally{}
	for seed := range int64(1500) {
		m := newChance(seed)
		p := m.either()
		q := m.question(p)
		if m.one(4) {
			p, q = m.wrong(p, q)
		}
		p, q = roomy(p), roomy(q)
		ahead := all(p) + all(q)
		Question(p, q)
		got, turned := Turn(p, q)
		if all(p)+all(q) != ahead {
			t.Fatalf("written into\n%s%+v", shown(p), q)
		}
		if shares(p, q, got) {
			t.Fatalf("%+v of\n%s\nshares (%v) in\n%s", q, shown(p), turned, shown(got))
		}
		n[fmt.Sprint(turned)]++
	}
	n.enough(t, 400, "true", "false")
}

// R4: an answer shares nothing either, where what was handed in shares lists with itself.
func TestHandedInShared(t *testing.T) {
	p := parsed(t, edges)
	args := p.Clauses[0].Head.Args
	p.Clauses[0].Body[0].Atom.Args = args
	p.Decls[0].Cols = p.Decls[len(p.Decls)-1].Cols
	p.Clauses = append(p.Clauses, p.Clauses...)
	q := api.Atom{Rel: "p", Args: args}
	for _, rel := range []string{"p", "e"} {
		q.Rel = rel
		if got, turned := Turn(p, q); shares(got) || turned != (rel == "p") {
			t.Errorf("%v, shares lists: %s", turned, shown(got))
		}
	}
	rows := make([]api.Row, 3)
	leaf := made("Leaf", numeral(1))
	for i := range rows {
		rows[i].Args = []api.Val{leaf, made("Node", leaf, leaf)}
	}
	rows[2] = rows[1]
	table := roomy(api.Table{Rel: "t"})
	table.Rows = rows
	if got := Answer(q, table); len(got.Rows) != 3 || shares(got) {
		t.Errorf("%+v", got)
	}
}

// R4: a table is the same behind a call as ahead of it, and an answer shares nothing with it or the question.
func TestTableHandedIn(t *testing.T) {
	some := 0
	for seed := range int64(500) {
		m := newChance(seed)
		table := api.Table{Rel: "t"}
		for range m.Intn(9) {
			row := api.Row{Height: m.Intn(9), Rule: m.Intn(9)}
			for range 2 + m.Intn(4)/3 {
				row.Args = append(row.Args, m.value(m.word("T", "T", "number", "symbol")))
			}
			table.Rows = append(table.Rows, row)
		}
		q := roomy(api.Atom{Rel: "p", Args: []api.Expr{m.expr(api.EAny, 0, ""), m.expr(api.EVar, 0, "x", m.literal(true))}})
		if m.one(2) {
			q.Args[m.Intn(2)] = m.literal(m.one(2))
		}
		table = roomy(table)
		ahead := all(table) + all(q)
		got := Answer(q, table)
		if all(table)+all(q) != ahead {
			t.Fatalf("written into %+v %+v", table, q)
		}
		if shares(table, q, got) {
			t.Fatalf("%+v shares with %+v", got, table)
		}
		some += len(got.Rows)
	}
	if some < 500 {
		t.Errorf("%d rows", some)
	}
}

// R4: what is written into an answer turns no later one.
func TestNotKept(t *testing.T) {
	p, q := parsed(t, edges), atom(t, "p(1, x)")
	want, _ := Turn(p, q)
	one, _ := Turn(p, q)
	for i := range one.Clauses {
		clear(one.Clauses[i].Head.Args)
		clear(one.Clauses[i].Body)
	}
	for i := range one.Decls {
		clear(one.Decls[i].Cols)
	}
	clear(one.Decls)
	clear(one.Types)
	if again, turned := Turn(p, q); !turned || !equal(again, want) {
		t.Errorf("%s, want\n%s", shown(again), shown(want))
	}
	q.Args[0].N, p.Clauses[0].Head.Args[1].S = 5, "x"
	if again, _ := Turn(p, q); again.Clauses[0].Head.Args[0].N != 5 || want.Clauses[0].Head.Args[0].N != 1 || want.Clauses[1].Head.Args[1].S != "y" {
		t.Errorf("%s and %s", shown(again), shown(want))
	}
	stayed, _ := Turn(p, atom(t, "e(x, y)"))
	stayed.Clauses[0].Body[0].Atom.Rel = "n"
	if p.Clauses[0].Body[0].Atom.Rel != "e" {
		t.Error("a program that stays is handed out itself")
	}
	all := table("p", []api.Val{made("Leaf", numeral(1))})
	Answer(atom(t, "p(x)"), all).Rows[0].Args[0].Args[0].N = 2
	if got := Answer(atom(t, "p(x)"), all); got.Rows[0].Args[0].Args[0].N != 1 {
		t.Errorf("%+v", got)
	}
}

// R6: lists that are nil and ones that are empty are the same.
func TestEmptyLists(t *testing.T) {
	p := api.Prog{
		Types: []api.TypeDecl{}, Comps: []api.Comp{}, Inits: []api.Init{},
		Decls:   []api.Decl{{Name: "p", Cols: []api.Field{}}, {Name: "e"}},
		Clauses: []api.Clause{{Head: api.Atom{Rel: "p", Args: []api.Expr{}}, Body: []api.Lit{}}, {Head: api.Atom{Rel: "p"}, Body: []api.Lit{{Kind: api.LAtom, Atom: api.Atom{Rel: "e", Args: []api.Expr{}}}}}},
	}
	const want = "e()\np.a_() output\np.m_()\np.m_().\np.a_() :- p.m_().\np.a_() :- p.m_(), e().\n"
	for _, q := range []api.Atom{{Rel: "p"}, {Rel: "p", Args: []api.Expr{}}} {
		if got, turned := Turn(p, q); !turned || shown(got) != want {
			t.Errorf("%v\n%s", turned, shown(got))
		}
		stays(t, api.Prog{Decls: []api.Decl{}, Comps: []api.Comp{}}, q)
		stays(t, api.Prog{}, q)
	}
	e := api.Atom{Rel: "e", Args: []api.Expr{}}
	if !Question(p, e) || !Question(p, api.Atom{Rel: "e"}) {
		t.Error("no question")
	}
	if got := Answer(e, api.Table{Rows: []api.Row{{}, {Args: []api.Val{}}}}); len(got.Rows) != 2 {
		t.Errorf("%+v", got)
	}
}

// R3, R4: one program may be handed in by several at one time.
func TestShared(t *testing.T) {
	p, q := parsed(t, edges), atom(t, "p(1, x)")
	table := table("p", []api.Val{numeral(1), made("Leaf")}, []api.Val{numeral(2), made("Leaf")})
	want, _ := Turn(p, q)
	var group sync.WaitGroup
	for range 8 {
		group.Go(func() {
			for range 50 {
				got, turned := Turn(p, q)
				if !turned || !equal(got, want) || !Question(p, q) || len(Answer(q, table).Rows) != 1 {
					t.Errorf("other answers: %s", shown(got))
				}
			}
		})
	}
	group.Wait()
}
