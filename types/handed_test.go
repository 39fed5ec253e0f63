package types

import (
	"reflect"
	"slices"
	"strconv"
	"sync"
	"testing"

	"vestry/api"
)

// copied: a thing that shares nothing with the one that is handed in.
func copied[T any](x T) T {
	return deepCopy(reflect.ValueOf(x), 0).Interface().(T)
}

// deepCopy copies a thing, with room behind the end of each list, all of it zero.
func deepCopy(v reflect.Value, room int) reflect.Value {
	twin := reflect.New(v.Type()).Elem()
	twin.Set(v)
	switch v.Kind() {
	case reflect.Struct:
		for i := range v.NumField() {
			twin.Field(i).Set(deepCopy(v.Field(i), room))
		}
	case reflect.Slice:
		list := reflect.MakeSlice(v.Type(), v.Len()+room, v.Len()+room)
		for i := range v.Len() {
			list.Index(i).Set(deepCopy(v.Index(i), room))
		}
		twin.Set(list.Slice(0, v.Len()))
	}
	return twin
}

// untouched: whether what lies behind the ends of all lists is still zero.
func untouched(v reflect.Value) bool {
	switch v.Kind() {
	case reflect.Struct:
		for i := range v.NumField() {
			if !untouched(v.Field(i)) {
				return false
			}
		}
	case reflect.Slice:
		whole := v.Slice(0, v.Cap())
		for i := range whole.Len() {
			if i >= v.Len() && !whole.Index(i).IsZero() || !untouched(whole.Index(i)) {
				return false
			}
		}
	}
	return true
}

// parts: all parts of a program that can be turned, inner ones first.
func parts(v reflect.Value) []reflect.Value {
	var found []reflect.Value
	switch v.Kind() {
	case reflect.Struct:
		for i := range v.NumField() {
			found = append(found, parts(v.Field(i))...)
		}
	case reflect.Slice:
		for i := range v.Len() {
			found = append(found, parts(v.Index(i))...)
		}
		found = append(found, v)
	default:
		found = append(found, v)
	}
	return found
}

// turn turns one part of a program.
func (m chance) turn(p *api.Prog) {
	found := parts(reflect.ValueOf(p).Elem())
	v := found[m.Intn(len(found))]
	switch v.Kind() {
	case reflect.String:
		v.SetString(m.pick("", "_", "v", "w", "T0", "T1", "T2", "number", "symbol", "C01", "C11", "r0", "r1", "X", "+", "^", "=", "<", "=="))
	case reflect.Int:
		v.SetInt(int64(m.Intn(9) - 1))
	case reflect.Bool:
		v.SetBool(!v.Bool())
	case reflect.Slice:
		m.turnList(v)
	}
}

func (m chance) turnList(v reflect.Value) {
	n := v.Len()
	switch m.Intn(4) {
	case 0:
		v.Set(reflect.MakeSlice(v.Type(), m.Intn(3), 20))
	case 1:
		v.Set(v.Slice(0, n-m.Intn(n+1)))
	case 2:
		v.Set(reflect.Append(v.Slice3(0, n, n), reflect.Zero(v.Type().Elem())))
	case 3:
		if n > 0 {
			v.Set(reflect.Append(v.Slice3(0, n, n), deepCopy(v.Index(m.Intn(n)), 0)))
		}
	}
}

// lists: where all lists lie that can be written to.
func lists(v reflect.Value) []uintptr {
	var at []uintptr
	switch v.Kind() {
	case reflect.Struct:
		for i := range v.NumField() {
			at = append(at, lists(v.Field(i))...)
		}
	case reflect.Slice:
		if v.Cap() > 0 {
			at = append(at, v.Pointer())
		}
		for i := range v.Len() {
			at = append(at, lists(v.Index(i))...)
		}
	}
	return at
}

// R4: programs and clauses are the same behind a call as ahead of it, also where it answers an error; an answer shares nothing with them, nor with another answer.
func TestHandedIn(t *testing.T) {
	for seed := range int64(1500) {
		m := newChance(seed)
		p := m.prog()
		if m.some(2) {
			m.turn(&p)
		}
		handed := deepCopy(reflect.ValueOf(p), 3).Interface().(api.Prog)
		ahead := copied(handed)
		seen := map[uintptr]bool{}
		for _, at := range lists(reflect.ValueOf(handed)) {
			seen[at] = true
		}
		fault := Check(handed)
		for range 2 {
			for _, c := range handed.Clauses {
				vars, f := Infer(handed, c)
				if cap(vars) > 0 && seen[reflect.ValueOf(vars).Pointer()] {
					t.Fatalf("%v: an answer has its list in common", f)
				}
				if cap(vars) > 0 {
					seen[reflect.ValueOf(vars).Pointer()] = true
				}
				want, _ := wantInfer(ahead, c)
				if !slices.Equal(vars, want) {
					t.Fatalf("%s, want %s", listed(vars), listed(want))
				}
				for i := range vars[:cap(vars)] {
					vars[:cap(vars)][i] = api.Field{Name: "written", Type: "over"}
				}
			}
		}
		for _, a := range names(p) {
			Base(handed, a)
			Below(handed, a, "number")
		}
		if !reflect.DeepEqual(handed, ahead) || !untouched(reflect.ValueOf(handed)) {
			t.Fatalf("%v turned its program: %+v, it was %+v", fault, handed, ahead)
		}
		if again := Check(handed); again != fault {
			t.Fatalf("%v, then %v", fault, again)
		}
	}
}

// R4: what was handed in is not kept: when it is written into, the next call has the new one's answers.
func TestNotKept(t *testing.T) {
	p := parsed(t, world+"a(x) :- a(x).")
	if fault := Check(p); fault != (api.Fault{}) {
		t.Fatal(fault)
	}
	vars, _ := Infer(p, p.Clauses[0])
	i := slices.IndexFunc(p.Types, func(d api.TypeDecl) bool { return d.Name == "A" })
	p.Types[i].Sub = "A"
	p.Decls[1].Cols[0].Type = "number"
	p.Clauses[0].Body[0].Atom.Args[0].S = "y"
	if listed(vars) != "x A" {
		t.Errorf("%s, want x A", listed(vars))
	}
	based(t, p, "AA", "")
	if fault := Check(p); fault != (api.Fault{Why: api.ErrRing, At: p.Types[i].At}) {
		t.Error(fault)
	}
	if _, fault := Infer(p, p.Clauses[0]); fault != (api.Fault{Why: api.ErrGround, At: p.Clauses[0].Head.Args[0].At}) {
		t.Error(fault)
	}
}

// R3, R4: one program may be looked at by several at one time.
func TestShared(t *testing.T) {
	p := parsed(t, world+"nn(x, y) :- a(x), y = x + 1. t($Node(1, $Leaf())). u(x) :- t(x).")
	want := Check(p)
	var group sync.WaitGroup
	for i := range 8 {
		group.Go(func() {
			for range 100 {
				vars, _ := Infer(p, p.Clauses[0])
				base, _ := Base(p, "UU")
				if Check(p) != want || want.Why != api.ErrType || listed(vars) != "x A, y number" || base != "T" || !Below(p, "AA", "A") {
					t.Errorf("worker %s: other answers", strconv.Itoa(i))
				}
			}
		})
	}
	group.Wait()
}
