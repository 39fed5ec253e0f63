package copies

import (
	"reflect"
	"testing"

	"vestry/api"
)

// fill gives every part of a program a value that is its alone, with lists of two.
func fill(v reflect.Value, deep int, next *int64) {
	*next++
	switch v.Kind() {
	case reflect.Struct:
		for i := range v.NumField() {
			fill(v.Field(i), deep, next)
		}
	case reflect.Slice:
		if deep == 0 {
			return
		}
		v.Set(reflect.MakeSlice(v.Type(), 2, 5))
		for i := range 2 {
			fill(v.Index(i), deep-1, next)
		}
	case reflect.String:
		v.SetString(string(rune('a' + *next%26)))
	case reflect.Int:
		v.SetInt(*next)
	case reflect.Bool:
		v.SetBool(*next%2 == 0)
	}
}

// lists: where all lists begin, that can be written to.
func lists(v reflect.Value) []uintptr {
	var all []uintptr
	switch v.Kind() {
	case reflect.Struct:
		for i := range v.NumField() {
			all = append(all, lists(v.Field(i))...)
		}
	case reflect.Slice:
		if v.Len() > 0 {
			all = append(all, v.Pointer())
		}
		for i := range v.Len() {
			all = append(all, lists(v.Index(i))...)
		}
	}
	return all
}

// R4: a copy has all that the program has, and no list in common with it, nor one twice.
func TestProg(t *testing.T) {
	for deep := range 5 {
		var p api.Prog
		next := int64(deep)
		fill(reflect.ValueOf(&p).Elem(), deep, &next)
		twin := Prog(p)
		seen := map[uintptr]bool{}
		for _, at := range append(lists(reflect.ValueOf(p)), lists(reflect.ValueOf(twin))...) {
			if seen[at] {
				t.Fatalf("depth %d: a list is there twice", deep)
			}
			seen[at] = true
		}
		if !reflect.DeepEqual(p, twin) {
			t.Fatalf("depth %d: %+v is no copy of %+v", deep, twin, p)
		}
	}
}

// A list that is nil stays so, and one that is empty does.
func TestEmpty(t *testing.T) {
	for _, p := range []api.Prog{
		{},
		{Types: []api.TypeDecl{}, Decls: []api.Decl{}, Comps: []api.Comp{}, Inits: []api.Init{}, Clauses: []api.Clause{}},
		{Types: []api.TypeDecl{{Ctors: []api.Ctor{}}, {Ctors: []api.Ctor{{Fields: []api.Field{}}}}}, Decls: []api.Decl{{Cols: []api.Field{}}, {}}},
		{Comps: []api.Comp{{Bases: []string{}}, {}}, Clauses: []api.Clause{{Body: []api.Lit{}}, {Head: api.Atom{Args: []api.Expr{}}}}},
	} {
		if twin := Prog(p); !reflect.DeepEqual(p, twin) {
			t.Errorf("%#v is no copy of %#v", twin, p)
		}
	}
}

// R4: a copy of a row has all that the row has, and no list in common with it, nor one twice, though the row has one part again and again.
func TestRow(t *testing.T) {
	part := api.Val{Kind: api.Con, S: "Leaf", Args: []api.Val{{Kind: api.Sym, S: "a"}}}
	for range 12 {
		part = api.Val{Kind: api.Con, S: "Node", N: 3, Args: []api.Val{part, {Kind: 7, N: 1, Args: []api.Val{}}, part}}
	}
	row := api.Row{Args: []api.Val{part, {}, part}, Height: 2, Rule: 5}
	twin := Row(row)
	if !reflect.DeepEqual(row, twin) {
		t.Error("it is no copy")
	}
	seen := map[uintptr]bool{}
	for _, at := range lists(reflect.ValueOf(row)) {
		seen[at] = true
	}
	for _, at := range lists(reflect.ValueOf(twin)) {
		if seen[at] {
			t.Fatal("a list is there twice")
		}
		seen[at] = true
	}
}

// R1: copying ends, of a value that holds itself, or one part so often that no memory has room for all of them; such a copy has no list in common with the value either.
func TestValEnds(t *testing.T) {
	ring := make([]api.Val, 2)
	ring[0] = api.Val{Kind: api.Con, S: "R", Args: ring}
	ring[1] = api.Val{Kind: api.Con, S: "S", Args: ring}
	row := make([]api.Val, 1)
	row[0] = api.Val{Kind: api.Con, S: "T", Args: row}
	wide := api.Val{Kind: api.Con, S: "Leaf"}
	for range 200 {
		wide = api.Val{Kind: api.Con, S: "Node", Args: []api.Val{wide, wide}}
	}
	for _, v := range []api.Val{ring[0], row[0], wide} {
		at, twin := v, Val(v)
		for range 150 {
			if twin.Kind != at.Kind || twin.S != at.S || len(twin.Args) != len(at.Args) || &twin.Args[0] == &at.Args[0] {
				t.Fatalf("%s: %+v", v.S, twin.Kind)
			}
			at, twin = at.Args[len(at.Args)-1], twin.Args[len(twin.Args)-1]
		}
	}
}
