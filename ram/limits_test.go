package ram

import (
	"math"
	"slices"
	"strings"
	"testing"

	"vestry/api"
	"vestry/term"
)

// P16.2: values of a run stand as layer 3's Order has it, texts that are too long, too.
func TestOrderOfValues(t *testing.T) {
	long := strings.Repeat("z", api.MaxText)
	values := []api.Val{
		numOf(0), numOf(math.MinInt64), numOf(math.MaxInt64), symOf(""), symOf("a"), symOf("ab"), symOf("\xff"), symOf(long), symOf(long + "a"), symOf(long + "bc"),
		conOf("A"), conOf("AB"), conOf("a"), conOf("B"), {Kind: api.Con, S: "A", Args: []api.Val{}},
		conOf("A", conOf("A", numOf(1)), numOf(1)), conOf("A", conOf("A", numOf(1)), numOf(2)), conOf("A", symOf(long)), conOf("_", slices.Repeat([]api.Val{conOf("A")}, api.MaxWidth)...),
	}
	c := newChance(1)
	for range 150 {
		values = append(values, c.value(4))
	}
	for _, a := range values {
		for _, b := range append(roomy(values), values...) {
			if got, want := order(a, b), term.Order(a, b); got != want {
				t.Fatalf("%.80s and %.80s: %d, want %d", term.Text(a), term.Text(b), got, want)
			}
		}
	}
}

// great: a value of very many parts, unlike others only at its end.
func great(n int) api.Val {
	v := conOf("A")
	for range 8 {
		v = conOf(strings.Repeat("A", api.MaxName), v, v)
	}
	return conOf("A", v, v, numOf(n))
}

// R1: runs end soon, where each step has as much to do as it may.
func TestMuchToDo(t *testing.T) {
	endless := func(kids ...api.RNode) api.RNode { return loopOf([]int{0}, kids...) }
	const fuel = 1 << 13
	var numbers, greats, others [][]api.Val
	for i := range api.MaxFacts {
		numbers = append(numbers, []api.Val{numOf(i)})
		greats = append(greats, []api.Val{great(i)})
		if i%8 == 0 {
			others = append(others, []api.Val{great(i)})
		}
	}
	sum, list := numeral(0), built("A", reg(0))
	for range 10 {
		sum = op("+", sum, sum)
	}
	for range 29 {
		list = built("A", reg(0), list)
	}
	none := scanOf(0, 0, keysOf(key(0, numeral(-1))))
	for name, c := range map[string]struct {
		m  api.Ram
		in [][][]api.Val
	}{
		"operators":         {program(0, endless(cmpOf("=", sum, sum)), 1), [][][]api.Val{numbers}},
		"constructors":      {program(1, scanOf(0, 0, nil, endless(slices.Repeat([]api.RNode{letOf(0, list)}, 60)...)), 1), [][][]api.Val{greats}},
		"keys":              {program(1, endless(slices.Repeat([]api.RNode{none}, 2000)...), 1), [][][]api.Val{numbers}},
		"merges":            {program(0, endless(mergeOf(0, 1)), 1, 1), [][][]api.Val{numbers, numbers}},
		"merges of greats":  {program(0, endless(mergeOf(0, 1)), 1, 1), [][][]api.Val{greats, greats}},
		"puts":              {program(1, endless(clearOf(1), scanOf(0, 0, nil, putOf(1, reg(0)))), 1, 1), [][][]api.Val{numbers, nil}},
		"puts of greats":    {program(1, endless(scanOf(1, 0, nil, putOf(0, reg(0)))), 1, 1), [][][]api.Val{greats, others}},
		"loops of many":     {program(0, endless(loopOf(make([]int, 1<<18), seqOf())), 1, 1), [][][]api.Val{numbers, nil}},
		"loops of others":   {program(0, endless(loopOf(append(slices.Repeat([]int{1}, 1<<18), 0), seqOf())), 1, 1), [][][]api.Val{numbers, nil}},
		"swaps":             {program(0, endless(swapOf(0, 1), swapOf(1, 0)), 1, 1), [][][]api.Val{greats, others}},
		"scans in scans":    {program(3, endless(scanOf(0, 0, nil, scanOf(0, 1, nil, scanOf(0, 2, nil)))), 1), [][][]api.Val{numbers}},
		"deep nodes":        {program(0, endless(deepNode(62)), 1), [][][]api.Val{numbers}},
		"matches of greats": {program(5, scanOf(0, 0, nil, endless(matchOf(0, "A", 3, 1, matchOf(1, strings.Repeat("A", api.MaxName), 2, 2)))), 1), [][][]api.Val{greats}},
	} {
		t.Run(name, func(t *testing.T) { fails(t, c.m, c.in, fuel, fuel, api.ErrFuel) })
	}
}

func deepNode(deep int) api.RNode {
	n := seqOf()
	for range deep {
		n = seqOf(n)
	}
	return n
}

// P16.2: lists that grow, item by item, till they may not be: too deep.
func TestGrowsDeep(t *testing.T) {
	// Each round puts what has one constructor more than the greatest so far; the 33rd may not be.
	m := program(1, loopOf([]int{1}, scanOf(1, 0, nil, putOf(0, reg(0)), putOf(2, built("S", reg(0)))), clearOf(1), swapOf(1, 2)), 1, 1, 1)
	in := [][][]api.Val{nil, {{numOf(0)}}, nil}
	const steps = 1 + 33*(1+1+3+2)
	faults(t, m, in, steps)
	m.Main.Kids[0].Kids[1] = notOf(0, exprsOf(nestedIn(31)), m.Main.Kids[0].Kids[1])
	out, n, e := Run(m, in, math.MaxInt)
	if e != api.OK || len(out[0]) != 32 || n != 1+32*(1+1+3+2)-1+32 || term.Text(out[0][2][0]) != "$S($S(0))" {
		t.Errorf("%d tuples, %d steps, %v", len(out[0]), n, e)
	}
}

// nestedIn: the Num 0 within so many constructors.
func nestedIn(n int) api.RExpr {
	x := numeral(0)
	for range n {
		x = built("S", x)
	}
	return x
}

// P16.2: values that double, till they have too many parts.
func TestGrowsWide(t *testing.T) {
	m := program(1, loopOf([]int{1}, scanOf(1, 0, nil, putOf(0, reg(0)), putOf(2, built("S", reg(0), reg(0)))), clearOf(1), swapOf(1, 2)), 1, 1, 1)
	// 1, 3, 7, .. 1023 parts are ten values; what would have 2047 faults.
	faults(t, m, [][][]api.Val{nil, {{numOf(0)}}, nil}, 1+10*(1+1+3+2))
}

// R1: very great programs that may not be, and arguments that are none.
func TestGreatPrograms(t *testing.T) {
	deep := seqOf()
	for range 1 << 14 {
		deep = loopOf([]int{0}, deep)
	}
	x := numeral(1)
	for range 1 << 14 {
		x = built("A", x)
	}
	for name, m := range map[string]api.Ram{
		"deep nodes":       program(1, deep, 1),
		"deep expressions": program(1, letOf(0, x)),
		"many nodes":       program(0, seqOf(make([]api.RNode, 1<<18)...)),
		"many Exprs":       program(0, putOf(0, make([]api.RExpr, 1<<18)...), 8),
		"many Keys":        program(9, scanOf(0, 0, make([]api.RKey, 1<<18)), 8),
		"many Rels":        program(0, loopOf(slices.Repeat([]int{1}, 1<<18)), 1),
		"many relations":   program(0, seqOf(), make([]int, 1<<18)...),
	} {
		may(t, name, m, false)
	}
	may(t, "many Rels that are", program(0, loopOf(make([]int, 1<<18)), 1), true)
	fails(t, program(0, seqOf()), make([][][]api.Val, 1<<18), 9, 0, api.ErrArg)
	fails(t, program(0, seqOf(), 0), [][][]api.Val{make([][]api.Val, 1<<18)}, 9, 0, api.ErrArg)
	fails(t, program(0, seqOf(), 8), [][][]api.Val{{make([]api.Val, 1<<18)}}, 9, 0, api.ErrArg)
}

// P16.2: just MaxFacts tuples in each of 128 relations.
func TestManyTuples(t *testing.T) {
	main := seqOf()
	in := make([][][]api.Val, maxRels)
	for rel := range in {
		in[rel] = full(0)
		main.Kids = append(main.Kids, swapOf(rel, (rel+1)%maxRels))
	}
	in[7] = rows("a; b")[0]
	out, steps, e := Run(program(0, main, slices.Repeat([]int{1}, maxRels)...), in, math.MaxInt)
	if e != api.OK || steps != 129 || len(out) != maxRels {
		t.Fatalf("%d, %v", steps, e)
	}
	for rel, tuples := range out {
		if want := api.MaxFacts; len(tuples) != want && rel != 6 {
			t.Errorf("relation %d has %d", rel, len(tuples))
		}
	}
	if told(out[6:7]) != "a; b" {
		t.Error(told(out[6:7]))
	}
}
