package pass

import (
	"reflect"
	"sync"
	"testing"

	"vestry/api"
	"vestry/syn"
)

// equal: whether two programs are the same, At too; lists that are nil and ones that are empty are.
func equal(a, b api.Prog) bool { return alike(reflect.ValueOf(a), reflect.ValueOf(b)) }

func alike(a, b reflect.Value) bool {
	switch a.Kind() {
	case reflect.Struct:
		for i := range a.NumField() {
			if !alike(a.Field(i), b.Field(i)) {
				return false
			}
		}
		return true
	case reflect.Slice:
		for i := range min(a.Len(), b.Len()) {
			if !alike(a.Index(i), b.Index(i)) {
				return false
			}
		}
		return a.Len() == b.Len()
	}
	return a.Equal(b)
}

// copied: a copy of a program, with so much room behind the end of each list, all of it zero; of a room below 0 with what lies behind the ends as parts of the lists.
func copied(p api.Prog, room int) api.Prog {
	return deepCopy(reflect.ValueOf(p), room).Interface().(api.Prog)
}

func deepCopy(v reflect.Value, room int) reflect.Value {
	twin := reflect.New(v.Type()).Elem()
	twin.Set(v)
	switch v.Kind() {
	case reflect.Struct:
		for i := range v.NumField() {
			twin.Field(i).Set(deepCopy(v.Field(i), room))
		}
	case reflect.Slice:
		n := v.Len()
		if room < 0 {
			n = v.Cap()
		}
		list := reflect.MakeSlice(v.Type(), n+max(room, 0), n+max(room, 0))
		for i := range n {
			list.Index(i).Set(deepCopy(v.Slice(0, n).Index(i), room))
		}
		twin.Set(list.Slice(0, n))
	}
	return twin
}

// lists: where all lists with room begin, and what room they have.
func lists(v reflect.Value) [][2]uintptr {
	var all [][2]uintptr
	switch v.Kind() {
	case reflect.Struct:
		for i := range v.NumField() {
			all = append(all, lists(v.Field(i))...)
		}
	case reflect.Slice:
		if v.Cap() > 0 {
			all = append(all, [2]uintptr{v.Pointer(), v.Pointer() + uintptr(v.Cap())*v.Type().Elem().Size()})
		}
		for i := range v.Len() {
			all = append(all, lists(v.Index(i))...)
		}
	}
	return all
}

// shares: whether two lists of these programs have room in common.
func shares(progs ...api.Prog) bool {
	var all [][2]uintptr
	for _, p := range progs {
		all = append(all, lists(reflect.ValueOf(p))...)
	}
	for i, a := range all {
		for _, b := range all[:i] {
			if a[0] < b[1] && b[0] < a[1] {
				return true
			}
		}
	}
	return false
}

// calls: all of them.
func calls() []call { return []call{Fold, Trim, Alias, Inline, best} }

// R4: a program is the same behind a call as ahead of it, and the answer shares nothing with it, nor one list of it with another one; also of programs that are refused.
func TestHandedIn(t *testing.T) {
	progs := refused(t)
	for seed := range int64(400) {
		progs[string(rune(seed))] = newChance(seed).either()
	}
	for _, made := range progs {
		p := copied(made, 2)
		ahead := copied(p, -1)
		for i, do := range calls() {
			q, turned := do(p)
			if !reflect.DeepEqual(copied(p, -1), ahead) {
				t.Fatalf("call %d writes into\n%s", i, shown(made))
			}
			if shares(p, q) {
				t.Fatalf("call %d of\n%s\nshares (%v) in\n%s", i, shown(made), turned, shown(q))
			}
		}
	}
}

// R4: an answer shares nothing either, where what was handed in shares lists with itself.
func TestHandedInShared(t *testing.T) {
	p := parsed(t, world+"a(x) :- e(x), x < 1 + 2. p(x) :- a(x), a(x). q(x, y) :- f(x, y), a(x).")
	p.Clauses[1].Head.Args = p.Clauses[0].Head.Args
	p.Clauses[1].Body[0].Atom.Args = p.Clauses[0].Head.Args
	p.Clauses[1].Body[1].Atom.Args = p.Clauses[0].Head.Args
	p.Clauses = append(p.Clauses, p.Clauses[2], p.Clauses[2])
	for i, do := range calls() {
		if q, _ := do(p); shares(q) {
			t.Errorf("call %d shares lists: %s", i, shown(q))
		}
	}
}

// R4: what is written into an answer turns no later one.
func TestNotKept(t *testing.T) {
	p := parsed(t, world+"a(x) :- e(x). b(x) :- e(x), x < 1 + 2. p(x) :- a(x), b(x), 1 < 2. z().")
	for i, do := range calls() {
		one, _ := do(p)
		want := copied(one, 0)
		for k := range one.Clauses {
			clear(one.Clauses[k].Body)
			clear(one.Clauses[k].Head.Args)
		}
		clear(one.Clauses)
		clear(one.Decls)
		clear(one.Types)
		if again, _ := do(p); !equal(again, want) {
			t.Errorf("call %d: %s, want\n%s", i, shown(again), shown(want))
		}
	}
	q := parsed(t, world+"a(x) :- e(x). p(x) :- a(x).")
	got, _ := Alias(q)
	q.Clauses[0].Body[0].Atom.Rel = "b"
	if next, _ := Alias(q); next.Clauses[0].Body[0].Atom.Rel != "b" || got.Clauses[0].Body[0].Atom.Rel != "e" {
		t.Errorf("%s and %s", shown(got), shown(next))
	}
}

// R6: lists that are nil and ones that are empty are the same.
func TestEmptyLists(t *testing.T) {
	p := api.Prog{
		Types: []api.TypeDecl{}, Comps: []api.Comp{}, Inits: []api.Init{},
		Decls:   []api.Decl{{Name: "a", Cols: []api.Field{}}, {Name: "b", Output: true}, {Name: "c"}},
		Clauses: []api.Clause{{Head: api.Atom{Rel: "a", Args: []api.Expr{}}, Body: []api.Lit{}}, {Head: api.Atom{Rel: "b"}, Body: []api.Lit{{Kind: api.LAtom, Atom: api.Atom{Rel: "a", Args: []api.Expr{}}}}}, {Head: api.Atom{Rel: "c"}}},
	}
	want := api.Prog{Decls: []api.Decl{{Name: "b", Output: true}}, Clauses: []api.Clause{{Head: api.Atom{Rel: "b"}}}}
	if q := Best(p); !equal(q, want) {
		t.Errorf("%+v", q)
	}
	for i, do := range calls() {
		for _, none := range []api.Prog{{}, {Types: []api.TypeDecl{}, Decls: []api.Decl{}, Comps: []api.Comp{}, Inits: []api.Init{}, Clauses: []api.Clause{}}} {
			if q, turned := do(none); turned || !equal(q, none) {
				t.Errorf("call %d: %+v", i, q)
			}
		}
	}
}

// R3, R4: one program may be handed in by several at one time.
func TestShared(t *testing.T) {
	p := parsed(t, world+"a(x) :- e(x). b(x) :- e(x), x < 1 + 2. p(x) :- a(x), b(x), 1 < 2. z().")
	want := Best(p)
	var group sync.WaitGroup
	for range 8 {
		group.Go(func() {
			for range 50 {
				for _, do := range calls() {
					do(p)
				}
				if q := Best(p); !syn.Same(q, want) {
					t.Errorf("other answers: %s", shown(q))
				}
			}
		})
	}
	group.Wait()
}
