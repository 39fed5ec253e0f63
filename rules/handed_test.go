package rules

import (
	"reflect"
	"sync"
	"testing"

	"vestry/api"
)

// copied: a copy of a thing, with so much room behind the end of each list, all of it zero; of a room below 0 with what lies behind the ends as parts of the lists.
func copied[T any](x T, room int) T {
	return deepCopy(reflect.ValueOf(x), room).Interface().(T)
}

func deepCopy(v reflect.Value, room int) reflect.Value {
	twin := reflect.New(v.Type()).Elem()
	twin.Set(v)
	switch v.Kind() {
	case reflect.Struct:
		for i := range v.NumField() {
			twin.Field(i).Set(deepCopy(v.Field(i), room))
		}
	case reflect.Slice:
		n := v.Len()
		if room < 0 {
			n = v.Cap()
		}
		list := reflect.MakeSlice(v.Type(), n+max(room, 0), n+max(room, 0))
		for i := range n {
			list.Index(i).Set(deepCopy(v.Slice(0, n).Index(i), room))
		}
		twin.Set(list.Slice(0, n))
	}
	return twin
}

// R4: programs and clauses are the same behind a call as ahead of it, also where it answers an error.
func TestHandedIn(t *testing.T) {
	for seed := range int64(3000) {
		m := newChance(seed)
		made := m.prog()
		if m.some(3) {
			m.turn(&made)
		}
		p, c := copied(made, 3), copied(m.clause(m.prog()), 3)
		prog, clause := copied(p, -1), copied(c, -1)
		fault := Check(p)
		Strata(p)
		Recursive(p, c)
		for _, own := range p.Clauses {
			Recursive(p, own)
			Hangs(p, own.Head.Rel, c.Head.Rel)
		}
		if !reflect.DeepEqual(copied(p, -1), prog) || !reflect.DeepEqual(copied(c, -1), clause) {
			t.Fatalf("%v: turned: %+v, it was %+v", fault, p, prog)
		}
		if again := Check(p); again != fault {
			t.Fatalf("%v, then %v", fault, again)
		}
	}
}

// R4: an answer shares nothing with what was handed in, nor with another answer, nor one list of it with another one.
func TestAnswersAlone(t *testing.T) {
	for seed := range int64(3000) {
		m := newChance(seed)
		p := graph(5, 2, m.Int()&m.Int())
		ahead := copied(p, -1)
		one, _ := Strata(p)
		other, _ := Strata(p)
		want := listed(one)
		for i, row := range one {
			kept := listed(one[i+1:])
			for k := range row[:cap(row)] {
				row[:cap(row)][k] = "written over"
			}
			if listed(one[i+1:]) != kept {
				t.Fatalf("lists of one answer share: %v", one)
			}
		}
		clear(one[:cap(one)])
		again, _ := Strata(p)
		if listed(other) != want || listed(again) != want || !reflect.DeepEqual(copied(p, -1), ahead) {
			t.Fatalf("%v and %v, want %s", other, again, want)
		}
	}
}

// R4: what was handed in is not kept: when it is written into, the next call has the new one's answers, and the earlier ones stay.
func TestNotKept(t *testing.T) {
	p := bare(t, "a b c", "a() :- b(). b() :- a(). c() :- a().")
	rows, _ := Strata(p)
	p.Decls[0].Name, p.Clauses[0].Head.Rel, p.Clauses[1].Body[0].Atom.Rel, p.Clauses[2].Body[0] = "d", "d", "c", api.Lit{Kind: api.LNot, Atom: api.Atom{Rel: "d"}, At: 9}
	if listed(rows) != "a b, c" {
		t.Error(rows)
	}
	if fault := Check(p); fault != (api.Fault{Why: api.ErrStrat, At: 9}) || !Hangs(p, "d", "d") || Hangs(p, "b", "a") {
		t.Error(fault)
	}
	p.Clauses = p.Clauses[:2]
	if rows, fault := Strata(p); listed(rows) != "c, b, d" || fault != (api.Fault{}) || Recursive(p, p.Clauses[0]) {
		t.Error(rows, fault)
	}
}

// R3, R4: one program may be looked at by several at one time.
func TestShared(t *testing.T) {
	p := bare(t, "a b c d", "a() :- b(). b() :- a(). c() :- a(), !d().")
	var group sync.WaitGroup
	for range 8 {
		group.Go(func() {
			for range 200 {
				rows, fault := Strata(p)
				if listed(rows) != "a b, d, c" || fault != Check(p) || !Hangs(p, "c", "b") || Recursive(p, p.Clauses[2]) {
					t.Errorf("other answers: %v %v", rows, fault)
				}
			}
		})
	}
	group.Wait()
}
