package lower

import (
	"cmp"
	"fmt"
	"reflect"
	"slices"
	"sync"
	"testing"

	"vestry/api"
	"vestry/ram"
)

// roomy: a copy of a thing, with room behind the end of each list.
func roomy[T any](x T) T { return withRoom(reflect.ValueOf(x)).Interface().(T) }

func withRoom(v reflect.Value) reflect.Value {
	twin := reflect.New(v.Type()).Elem()
	switch v.Kind() {
	case reflect.Struct:
		for i := range v.NumField() {
			twin.Field(i).Set(withRoom(v.Field(i)))
		}
	case reflect.Slice:
		twin.Set(reflect.MakeSlice(v.Type(), v.Len(), v.Len()+2))
		for i := range v.Len() {
			twin.Index(i).Set(withRoom(v.Index(i)))
		}
	default:
		twin.Set(v)
	}
	return twin
}

// span is where a list lies, with its room.
type span struct{ from, to uintptr }

// look goes through a thing: it writes down what stands there, behind the ends of lists, too, and where these lie.
func look(v reflect.Value, text *[]byte, spans *[]span) {
	switch v.Kind() {
	case reflect.Struct:
		for i := range v.NumField() {
			look(v.Field(i), text, spans)
		}
	case reflect.Slice:
		*text = fmt.Appendf(*text, "%d[", v.Len())
		if v.Cap() > 0 {
			*spans = append(*spans, span{v.Pointer(), v.Pointer() + uintptr(v.Cap())*v.Type().Elem().Size()})
		}
		for i := range v.Cap() {
			look(v.Slice(0, v.Cap()).Index(i), text, spans)
		}
	default:
		*text = fmt.Appendf(*text, "%#v,", v)
	}
}

// all: what stands in a thing, behind the ends of lists, too.
func all(x any) string {
	var text []byte
	look(reflect.ValueOf(x), &text, new([]span))
	return string(text)
}

// shares: whether two lists of these things have room in common.
func shares(things ...any) bool {
	var spans []span
	for _, x := range things {
		look(reflect.ValueOf(x), new([]byte), &spans)
	}
	slices.SortFunc(spans, func(a, b span) int { return cmp.Compare(a.from, b.from) })
	for i := 1; i < len(spans); i++ {
		if spans[i].from < spans[i-1].to {
			return true
		}
	}
	return false
}

// R4: programs are the same behind a call as ahead of it, and the answers share nothing with them, nor one list of them with another one, whether they are lowered or not.
func TestHandedIn(t *testing.T) {
	n := tally{}
	for seed := range int64(1000) {
		c := newChance(seed)
		p := c.either()
		if c.one(3) {
			p = c.wrong(p)
		}
		p = roomy(p)
		ahead := all(p)
		m, small := Lower(p)
		names := Names(p)
		if all(p) != ahead {
			t.Fatalf("written into\n%s", shown(p))
		}
		if shares(p, m, names) {
			t.Fatalf("%+v, %q of\n%s", m, names, shown(p))
		}
		n[fmt.Sprint(small)]++
	}
	n.enough(t, 200, "true", "false")
}

// R4: an answer shares nothing either, where what was handed in shares lists with itself.
func TestHandedInShared(t *testing.T) {
	p := parsed(t, ".decl e(x: number, y: number) .decl p(x: number, y: number) p(x, y) :- e(x, y), p(x, y), p(x, y), !e(x, y), x + y < x + y.")
	c := &p.Clauses[0]
	for i := range 4 {
		c.Body[i].Atom.Args = c.Head.Args
	}
	c.Body[4].R = c.Body[4].L
	p.Decls[0].Cols = p.Decls[1].Cols
	p.Clauses = append(p.Clauses, *c, *c)
	if m, small := Lower(p); !small || shares(m, p.Decls[0], c.Head) {
		t.Errorf("%v: %+v", small, m)
	}
}

// R4: what is written into an answer turns no later one, nor what was handed in; what was handed in is not kept.
func TestNotKept(t *testing.T) {
	p := parsed(t, paths)
	want, _ := Lower(p)
	one, _ := Lower(p)
	clear(one.Widths)
	clear(one.Main.Kids[0].Kids[0].Exprs)
	clear(one.Main.Kids)
	names := Names(p)
	clear(names)
	if again, small := Lower(p); !small || !ram.Same(again, want) || !slices.Equal(Names(p), []string{"e", "p"}) {
		t.Errorf("%+v, %q", again, Names(p))
	}
	kept := all(want)
	p.Decls[0].Name, p.Decls[1].Name = "a", "b"
	p.Clauses[1].Body = nil
	if m, small := Lower(p); small || all(want) != kept || !ram.Same(m, api.Ram{}) || !slices.Equal(Names(p), []string{"a", "b"}) {
		t.Errorf("%+v, %q", m, Names(p))
	}
}

// R6: lists that are nil and ones that are empty are the same.
func TestEmptyLists(t *testing.T) {
	p := api.Prog{
		Types: []api.TypeDecl{}, Comps: []api.Comp{}, Inits: []api.Init{},
		Decls:   []api.Decl{{Name: "p", Cols: []api.Field{}}, {Name: "e"}},
		Clauses: []api.Clause{{Head: api.Atom{Rel: "p", Args: []api.Expr{}}, Body: []api.Lit{}}, {Head: api.Atom{Rel: "p"}, Body: []api.Lit{{Kind: api.LAtom, Atom: api.Atom{Rel: "e", Args: []api.Expr{}}}}}},
	}
	out, e := ran(p, lowered(t, p), nil)
	if !slices.Equal(out, []string{"p()"}) || e != api.OK {
		t.Errorf("%q, %v", out, e)
	}
	if out, e := ran(api.Prog{Decls: []api.Decl{}}, lowered(t, api.Prog{Decls: []api.Decl{}, Clauses: []api.Clause{}}), nil); len(out) != 0 || e != api.OK {
		t.Errorf("%q, %v", out, e)
	}
	if len(Names(api.Prog{})) != 0 || len(Names(api.Prog{Decls: []api.Decl{}})) != 0 {
		t.Error("names of none")
	}
}

// R3, R4: one program may be handed in by several at one time.
func TestShared(t *testing.T) {
	p := parsed(t, paths)
	want, _ := Lower(p)
	var group sync.WaitGroup
	for range 8 {
		group.Go(func() {
			for range 50 {
				if m, small := Lower(p); !small || !ram.Same(m, want) || len(Names(p)) != 2 {
					t.Errorf("%+v", m)
				}
			}
		})
	}
	group.Wait()
}
