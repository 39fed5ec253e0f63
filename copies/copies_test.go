package copies

import (
	"reflect"
	"testing"

	"vestry/api"
)

// fill gives every part of a program a value that is its alone, with lists of two.
func fill(v reflect.Value, deep int, next *int64) {
	*next++
	switch v.Kind() {
	case reflect.Struct:
		for i := range v.NumField() {
			fill(v.Field(i), deep, next)
		}
	case reflect.Slice:
		if deep == 0 {
			return
		}
		v.Set(reflect.MakeSlice(v.Type(), 2, 5))
		for i := range 2 {
			fill(v.Index(i), deep-1, next)
		}
	case reflect.String:
		v.SetString(string(rune('a' + *next%26)))
	case reflect.Int:
		v.SetInt(*next)
	case reflect.Bool:
		v.SetBool(*next%2 == 0)
	}
}

// lists: where all lists begin, that can be written to.
func lists(v reflect.Value) []uintptr {
	var all []uintptr
	switch v.Kind() {
	case reflect.Struct:
		for i := range v.NumField() {
			all = append(all, lists(v.Field(i))...)
		}
	case reflect.Slice:
		if v.Len() > 0 {
			all = append(all, v.Pointer())
		}
		for i := range v.Len() {
			all = append(all, lists(v.Index(i))...)
		}
	}
	return all
}

// R4: a copy has all that the program has, and no list in common with it, nor one twice.
func TestProg(t *testing.T) {
	for deep := range 5 {
		var p api.Prog
		next := int64(deep)
		fill(reflect.ValueOf(&p).Elem(), deep, &next)
		twin := Prog(p)
		if deep > 0 && !reflect.DeepEqual(lengths(twin), lengths(p)) {
			t.Fatalf("depth %d: lists of other lengths", deep)
		}
		seen := map[uintptr]bool{}
		for _, at := range append(lists(reflect.ValueOf(p)), lists(reflect.ValueOf(twin))...) {
			if seen[at] {
				t.Fatalf("depth %d: a list is there twice", deep)
			}
			seen[at] = true
		}
		if !same(reflect.ValueOf(p), reflect.ValueOf(twin)) {
			t.Fatalf("depth %d: %+v is no copy of %+v", deep, twin, p)
		}
	}
}

func lengths(p api.Prog) []int {
	return []int{len(p.Types), len(p.Decls), len(p.Comps), len(p.Inits), len(p.Clauses)}
}

// same: nil and empty lists aside.
func same(a, b reflect.Value) bool {
	switch a.Kind() {
	case reflect.Struct:
		for i := range a.NumField() {
			if !same(a.Field(i), b.Field(i)) {
				return false
			}
		}
		return true
	case reflect.Slice:
		for i := range min(a.Len(), b.Len()) {
			if !same(a.Index(i), b.Index(i)) {
				return false
			}
		}
		return a.Len() == b.Len()
	}
	return a.Equal(b)
}
