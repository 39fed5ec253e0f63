package ram

import (
	"reflect"
	"testing"

	"vestry/api"
)

// fill gives every field a value, and every list two parts, so deep.
func fill(v reflect.Value, deep int, next *int64) {
	*next++
	switch v.Kind() {
	case reflect.Struct:
		for i := range v.NumField() {
			fill(v.Field(i), deep, next)
		}
	case reflect.Slice:
		if deep > 0 {
			v.Set(reflect.MakeSlice(v.Type(), 2, 5))
			for i := range 2 {
				fill(v.Index(i), deep-1, next)
			}
		}
	case reflect.String:
		v.SetString(string(rune('a' + *next%26)))
	case reflect.Int:
		v.SetInt(*next)
	}
}

// filled: a program whose fields all have values, those too that their Kind has not.
func filled() api.Ram {
	var m api.Ram
	next := int64(0)
	fill(reflect.ValueOf(&m).Elem(), 3, &next)
	return m
}

// each hands on what turns one field of a thing, or one list's length, and what turns it back, field by field.
func each(v reflect.Value, yield func(path string), path string) {
	switch v.Kind() {
	case reflect.Struct:
		for i := range v.NumField() {
			each(v.Field(i), yield, path+"."+v.Type().Field(i).Name)
		}
	case reflect.Slice:
		was := v.Interface()
		if v.Len() > 0 {
			v.Set(v.Slice(0, v.Len()-1))
			yield(path + " without its last")
			v.Set(reflect.ValueOf(was))
		}
		v.Set(reflect.Append(v.Slice3(0, v.Len(), v.Len()), reflect.Zero(v.Type().Elem())))
		yield(path + " with one more")
		v.Set(reflect.ValueOf(was))
		for i := range v.Len() {
			each(v.Index(i), yield, path+"[]")
		}
	case reflect.String:
		was := v.String()
		v.SetString(was + "x")
		yield(path)
		v.SetString(was)
	case reflect.Int:
		was := v.Int()
		v.SetInt(was + 1)
		yield(path)
		v.SetInt(was)
	}
}

func same(t *testing.T, name string, a, b api.Ram, want bool) {
	t.Helper()
	if Same(a, b) != want || Same(b, a) != want {
		t.Errorf("%s: %v, want %v", name, !want, want)
	}
}

// P16.1: all fields count, of what may be and of what may not.
func TestSame(t *testing.T) {
	a, b := filled(), filled()
	same(t, "filled", a, b, true)
	fields := 0
	each(reflect.ValueOf(&b).Elem(), func(path string) {
		same(t, path, a, b, false)
		fields++
	}, "")
	same(t, "turned back", a, b, true)
	if fields < 900 {
		t.Errorf("%d fields", fields)
	}
	for name, n := range goodNodes() {
		a, b := around(n), around(roomy(n))
		same(t, name, a, b, true)
		each(reflect.ValueOf(&b).Elem(), func(path string) { same(t, name+path, a, b, false) }, "")
		for other, o := range goodNodes() {
			same(t, name+" and "+other, a, around(o), name == other)
		}
	}
}

// emptied: a program in which lists of nothing are empty ones.
func emptied(v reflect.Value) {
	switch v.Kind() {
	case reflect.Struct:
		for i := range v.NumField() {
			emptied(v.Field(i))
		}
	case reflect.Slice:
		if v.Len() == 0 {
			v.Set(reflect.MakeSlice(v.Type(), 0, 3))
		}
		for i := range v.Len() {
			emptied(v.Index(i))
		}
	}
}

// R6: lists that are nil and ones that are empty are the same, in all calls.
func TestEmptyLists(t *testing.T) {
	for name, n := range goodNodes() {
		a, b := around(n), around(roomy(n))
		emptied(reflect.ValueOf(&b).Elem())
		same(t, name, a, b, true)
		may(t, name, b, true)
		same(t, name+", Tight", Tight(a), Tight(b), true)
	}
	same(t, "nothing", api.Ram{}, api.Ram{Widths: []int{}, Main: api.RNode{Kids: []api.RNode{}, Rels: []int{}, L: api.RExpr{Kids: []api.RExpr{}}}}, true)
	m := program(1, scanOf(0, 0, []api.RKey{}, hasOf(1, []api.RExpr{}, putOf(1))), 1, 0)
	for _, in := range [][][][]api.Val{{nil, nil}, {{}, {}}, {nil, {}}} {
		runsOver(t, m, in, " | ", 1)
	}
	runsOver(t, m, [][][]api.Val{{{numOf(1)}}, {{}}}, "1 | ()", 4)
	runsOver(t, m, [][][]api.Val{{{numOf(1)}}, {nil, {}}}, "1 | ()", 4)
	leaf := api.Val{Kind: api.Con, S: "A", Args: []api.Val{}}
	match := program(1, scanOf(0, 0, nil, matchOf(0, "A", 0, 0, putOf(1, reg(0)))), 1, 1)
	runsOver(t, match, [][][]api.Val{{{leaf}, {conOf("A")}, {{Kind: api.Num, Args: []api.Val{}}}}, nil}, "0; $A() | $A()", 1+2*2+1)
	if out, steps, e := Run(program(0, seqOf()), [][][]api.Val{}, 1); len(out) != 0 || steps != 1 || e != api.OK {
		t.Errorf("%v, %d, %v", out, steps, e)
	}
}

// P16.1, R1: programs that hold themselves, or one part again and again, are held against each other in the end.
func TestSameEnds(t *testing.T) {
	ring := func(n int, last string) api.Ram {
		nodes := make([][]api.RNode, n)
		for i := range nodes {
			nodes[i] = []api.RNode{seqOf(), seqOf()}
		}
		for i := range nodes {
			nodes[i][1].Kids = nodes[(i+1)%n]
		}
		nodes[n-1][0].S = last
		return program(0, seqOf(nodes[0]...))
	}
	same(t, "rings", ring(3, ""), ring(3, ""), true)
	same(t, "rings of unlike lengths that go on alike", ring(3, ""), ring(4, ""), true)
	same(t, "rings with another last", ring(3, "a"), ring(3, "b"), false)
	same(t, "rings that part late", ring(6, "a"), ring(4, "a"), false)
	same(t, "long rings", ring(30, "a"), ring(30, "a"), true)
	tree := func(leaf api.RExpr) api.Ram {
		x := leaf
		for range 200 {
			x = built("A", x, x)
		}
		n := letOf(0, x)
		for range 200 {
			n = seqOf(n, n)
		}
		return program(0, n)
	}
	same(t, "trees", tree(numeral(1)), tree(numeral(1)), true)
	same(t, "trees with other leaves", tree(numeral(1)), tree(numeral(2)), false)
	rows := func(leaf int) api.Ram {
		n := letOf(0, numeral(leaf))
		for range 1 << 14 {
			n = seqOf(n)
		}
		return program(0, n)
	}
	same(t, "deep ones", rows(1), rows(1), true)
	same(t, "deep ones with other leaves", rows(1), rows(2), false)
	wide := func(last int) api.Ram {
		n := loopOf(make([]int, 1<<18))
		n.Rels = append(n.Rels, last)
		return program(0, n)
	}
	same(t, "wide ones", wide(1), wide(1), true)
	same(t, "wide ones with another last", wide(1), wide(2), false)
}
