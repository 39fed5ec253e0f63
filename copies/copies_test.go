package copies

import (
	"reflect"
	"testing"

	"vestry/api"
)

// fill gives every part of a program a value that is its alone, with lists of two.
func fill(v reflect.Value, deep int, next *int64) {
	*next++
	switch v.Kind() {
	case reflect.Struct:
		for i := range v.NumField() {
			fill(v.Field(i), deep, next)
		}
	case reflect.Slice:
		if deep == 0 {
			return
		}
		v.Set(reflect.MakeSlice(v.Type(), 2, 5))
		for i := range 2 {
			fill(v.Index(i), deep-1, next)
		}
	case reflect.String:
		v.SetString(string(rune('a' + *next%26)))
	case reflect.Int:
		v.SetInt(*next)
	case reflect.Bool:
		v.SetBool(*next%2 == 0)
	}
}

// lists: where all lists begin, that can be written to.
func lists(v reflect.Value) []uintptr {
	var all []uintptr
	switch v.Kind() {
	case reflect.Struct:
		for i := range v.NumField() {
			all = append(all, lists(v.Field(i))...)
		}
	case reflect.Slice:
		if v.Len() > 0 {
			all = append(all, v.Pointer())
		}
		for i := range v.Len() {
			all = append(all, lists(v.Index(i))...)
		}
	}
	return all
}

// R4: a copy has all that the program has, and no list in common with it, nor one twice.
func TestProg(t *testing.T) {
	for deep := range 5 {
		var p api.Prog
		next := int64(deep)
		fill(reflect.ValueOf(&p).Elem(), deep, &next)
		twin := Prog(p)
		seen := map[uintptr]bool{}
		for _, at := range append(lists(reflect.ValueOf(p)), lists(reflect.ValueOf(twin))...) {
			if seen[at] {
				t.Fatalf("depth %d: a list is there twice", deep)
			}
			seen[at] = true
		}
		if !reflect.DeepEqual(p, twin) {
			t.Fatalf("depth %d: %+v is no copy of %+v", deep, twin, p)
		}
	}
}

// A list that is nil stays so, and one that is empty does.
func TestEmpty(t *testing.T) {
	for _, p := range []api.Prog{
		{},
		{Types: []api.TypeDecl{}, Decls: []api.Decl{}, Comps: []api.Comp{}, Inits: []api.Init{}, Clauses: []api.Clause{}},
		{Types: []api.TypeDecl{{Ctors: []api.Ctor{}}, {Ctors: []api.Ctor{{Fields: []api.Field{}}}}}, Decls: []api.Decl{{Cols: []api.Field{}}, {}}},
		{Comps: []api.Comp{{Bases: []string{}}, {}}, Clauses: []api.Clause{{Body: []api.Lit{}}, {Head: api.Atom{Args: []api.Expr{}}}}},
	} {
		if twin := Prog(p); !reflect.DeepEqual(p, twin) {
			t.Errorf("%#v is no copy of %#v", twin, p)
		}
	}
}

// R4: a copy of a row has all that the row has, and no list in common with it, nor one twice, though the row has one part again and again.
func TestRow(t *testing.T) {
	part := api.Val{Kind: api.Con, S: "Leaf", Args: []api.Val{{Kind: api.Sym, S: "a"}}}
	for range 12 {
		part = api.Val{Kind: api.Con, S: "Node", N: 3, Args: []api.Val{part, {Kind: 7, N: 1, Args: []api.Val{}}, part}}
	}
	row := api.Row{Args: []api.Val{part, {}, part}, Height: 2, Rule: 5}
	twin := Row(row)
	if !reflect.DeepEqual(row, twin) {
		t.Error("it is no copy")
	}
	seen := map[uintptr]bool{}
	for _, at := range lists(reflect.ValueOf(row)) {
		seen[at] = true
	}
	for _, at := range lists(reflect.ValueOf(twin)) {
		if seen[at] {
			t.Fatal("a list is there twice")
		}
		seen[at] = true
	}
}

// R1: copying ends, of a value that holds itself, or one part so often that no memory has room for all of them; such a copy has no list in common with the value either.
func TestValEnds(t *testing.T) {
	ring := make([]api.Val, 2)
	ring[0] = api.Val{Kind: api.Con, S: "R", Args: ring}
	ring[1] = api.Val{Kind: api.Con, S: "S", Args: ring}
	row := make([]api.Val, 1)
	row[0] = api.Val{Kind: api.Con, S: "T", Args: row}
	wide := api.Val{Kind: api.Con, S: "Leaf"}
	for range 200 {
		wide = api.Val{Kind: api.Con, S: "Node", Args: []api.Val{wide, wide}}
	}
	for _, v := range []api.Val{ring[0], row[0], wide} {
		at, twin := v, Val(v)
		for range 150 {
			if twin.Kind != at.Kind || twin.S != at.S || len(twin.Args) != len(at.Args) || &twin.Args[0] == &at.Args[0] {
				t.Fatalf("%s: %+v", v.S, twin.Kind)
			}
			at, twin = at.Args[len(at.Args)-1], twin.Args[len(twin.Args)-1]
		}
	}
}

// R4: a copy of a program of loops has all that the program has, and no list in common with it, nor one twice, though the program has one part again and again.
func TestRam(t *testing.T) {
	for deep := range 4 {
		var m api.Ram
		next := int64(deep)
		fill(reflect.ValueOf(&m).Elem(), deep, &next)
		m.Main.Kids = append(m.Main.Kids, m.Main, api.RNode{Kids: []api.RNode{}, Exprs: []api.RExpr{}, Keys: []api.RKey{}, Rels: []int{}}, m.Main)
		twin := Ram(m)
		if !reflect.DeepEqual(m, twin) {
			t.Fatalf("depth %d: %+v is no copy of %+v", deep, twin, m)
		}
		seen := map[uintptr]bool{}
		for _, at := range lists(reflect.ValueOf(m)) {
			seen[at] = true
		}
		for _, at := range lists(reflect.ValueOf(twin)) {
			if seen[at] {
				t.Fatalf("depth %d: a list is there twice", deep)
			}
			seen[at] = true
		}
	}
}

// R1: copying ends, of a program of loops that holds itself, in nodes, in expressions and in keys, or one part so often that no memory has room for all of them.
func TestRamEnds(t *testing.T) {
	kids := make([]api.RNode, 2)
	exprs := make([]api.RExpr, 2)
	keys := make([]api.RKey, 1)
	for i := range exprs {
		exprs[i] = api.RExpr{Kind: api.ECon, S: "A", Kids: exprs}
	}
	keys[0].X = exprs[0]
	kids[0] = api.RNode{Kind: api.RSeq, Kids: kids, Exprs: exprs, Keys: keys, L: exprs[0], R: exprs[1]}
	kids[1] = api.RNode{Kind: api.RLoop, Kids: kids}
	wide := api.RNode{Kind: api.RSeq}
	for range 200 {
		wide = api.RNode{Kind: api.RSeq, Kids: []api.RNode{wide, wide}}
	}
	for _, main := range []api.RNode{kids[0], kids[1], wide} {
		at, twin := main, Ram(api.Ram{Main: main}).Main
		for range 150 {
			if twin.Kind != at.Kind || len(twin.Kids) != len(at.Kids) || &twin.Kids[0] == &at.Kids[0] {
				t.Fatalf("%d, %d Kids", twin.Kind, len(twin.Kids))
			}
			at, twin = at.Kids[len(at.Kids)-1], twin.Kids[len(twin.Kids)-1]
		}
	}
	twin := Ram(api.Ram{Main: kids[0]}).Main
	if &twin.Exprs[0] == &exprs[0] || &twin.Keys[0] == &keys[0] || &twin.Exprs[1].Kids[0] == &exprs[0] || &twin.Keys[0].X.Kids[0] == &exprs[0] || &twin.L.Kids[0] == &exprs[0] || &twin.R.Kids[1] == &exprs[1] {
		t.Error("a list is there that was handed in")
	}
}
