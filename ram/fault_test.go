package ram

import (
	"math"
	"slices"
	"strings"
	"testing"

	"vestry/api"
)

// nested: an expression within so many constructors.
func nested(n int, x api.RExpr) api.RExpr {
	for range n {
		x = built("A", x)
	}
	return x
}

// doubled: what has 2^(n+1) - 1 parts.
func doubled(n int) api.RExpr {
	x := built("A")
	for range n {
		x = built("A", x, x)
	}
	return x
}

// valueless: expressions without a value; registers are as within has them.
func valueless() map[string]api.RExpr {
	return map[string]api.RExpr{
		"a sum beyond":             op("+", numeral(math.MaxInt64), numeral(1)),
		"a sum below":              op("+", numeral(math.MinInt64), numeral(-1)),
		"a difference":             op("-", numeral(math.MinInt64), numeral(1)),
		"a product":                op("*", numeral(1<<62), reg(0)),
		"a quotient that leaves":   op("/", numeral(math.MinInt64), numeral(-1)),
		"a division by 0":          op("/", reg(0), numeral(0)),
		"a rest of 0":              op("%", reg(0), op("-", reg(0), numeral(2))),
		"a Sym in an operator":     op("+", texted("a"), numeral(1)),
		"a Sym behind an operator": op("-", numeral(1), reg(1)),
		"a Con in an operator":     op("*", reg(2), numeral(1)),
		"a made Con in one":        op("+", numeral(1), built("A")),
		"a Kid that has none":      op("+", op("/", numeral(1), numeral(0)), numeral(1)),
		"a Kid, behind":            op("+", numeral(1), op("/", numeral(1), numeral(0))),
		"a constructor's Kid":      built("A", numeral(1), built("B", op("%", numeral(1), numeral(0)))),
		"nine Kids":                built("A", slices.Repeat([]api.RExpr{numeral(1)}, api.MaxWidth+1)...),
		"nine Kids within":         built("A", built("A", slices.Repeat([]api.RExpr{numeral(1)}, api.MaxWidth+1)...)),
		"many Kids":                built("A", slices.Repeat([]api.RExpr{numeral(1)}, 999)...),
		"too deep":                 nested(30, built("A", reg(3))),
		"too many parts":           built("A", doubled(8), doubled(8), numeral(1), numeral(1)),
		"a text too long, in it":   built("A", texted(strings.Repeat("a", api.MaxText+1))),
		"an operator within":       nested(20, op("/", numeral(0), numeral(0))),
	}
}

// within: a node where registers 0 to 4 are set: a Num, a Sym, a Con, a Con of a Con, a Num. It takes six steps more.
func within(kids ...api.RNode) api.RNode {
	return letOf(0, numeral(2), letOf(1, texted("a"), letOf(2, built("A", numeral(7)), letOf(3, built("B", built("B")), letOf(4, numeral(0), seqOf(kids...))))))
}

// asking: each Kind of node that asks for values, with an expression at each place where it has one.
func asking(x api.RExpr, kids ...api.RNode) map[string]api.RNode {
	one := numeral(1)
	return map[string]api.RNode{
		"scan":        scanOf(0, 5, keysOf(key(0, x)), kids...),
		"scan, later": scanOf(0, 5, keysOf(key(0, one), key(1, x)), kids...),
		"has":         hasOf(0, exprsOf(x, one), kids...),
		"has, later":  hasOf(0, exprsOf(one, x), kids...),
		"not":         notOf(0, exprsOf(x, one), kids...),
		"not, later":  notOf(0, exprsOf(one, x), kids...),
		"cmp":         cmpOf("=", x, one, kids...),
		"cmp, right":  cmpOf("!=", one, x, kids...),
		"cmp, less":   cmpOf("<", x, x, kids...),
		"let":         letOf(5, x, kids...),
		"put":         putOf(0, x, one),
		"put, later":  putOf(0, one, x),
	}
}

// P16.2: where something that a node asks for has no value a fault is told, the node does nothing, and the run goes on.
func TestFaults(t *testing.T) {
	for what, x := range valueless() {
		for name, n := range asking(x, putOf(1, numeral(8))) {
			t.Run(what+" in "+name, func(t *testing.T) {
				m := program(9, within(n, putOf(1, numeral(9)), scanOf(0, 5, nil), scanOf(1, 5, nil)), 2, 1)
				// The steps of the scans tell that no other tuples are there behind the node than ahead of it, but for the one that is put there.
				faults(t, m, rows("|"), 6+1+1+1+2)
				faults(t, m, rows("1 1; a 1 |"), 6+1+1+3+2)
			})
		}
	}
}

// P16.2: what just has a value has no fault.
func TestNoFaults(t *testing.T) {
	for what, x := range map[string]api.RExpr{
		"a sum":         op("+", numeral(math.MaxInt64-2), reg(0)),
		"a difference":  op("-", numeral(math.MinInt64+2), reg(0)),
		"a product":     op("*", numeral(-1<<62), reg(0)),
		"a quotient":    op("/", numeral(math.MinInt64+1), numeral(-1)),
		"a rest":        op("%", numeral(math.MinInt64), numeral(-1)),
		"eight Kids":    built("A", slices.Repeat([]api.RExpr{numeral(1)}, api.MaxWidth)...),
		"deep":          nested(30, reg(3)),
		"parts":         built("A", doubled(8), doubled(8), numeral(1)),
		"a long text":   built("A", texted(strings.Repeat("a", api.MaxText))),
		"a longer text": texted(strings.Repeat("a", api.MaxText+1)),
		"a Sym":         reg(1),
		"a Con":         reg(2),
	} {
		t.Run(what, func(t *testing.T) {
			for name, n := range asking(x) {
				if name == "cmp, less" {
					continue
				}
				if _, _, e := Run(program(9, within(n), 2), [][][]api.Val{nil}, 99); e != api.OK {
					t.Errorf("%s: %v", name, e)
				}
			}
		})
	}
}

// P16.2: comparisons of each sign of values of each kind.
func TestComparisons(t *testing.T) {
	small, great := built("A", numeral(1)), built("A", numeral(2))
	values := []api.RExpr{numeral(-3), numeral(4), texted("a"), texted("b"), small, great}
	signs := map[string]func(a, b int) bool{
		"=":  func(a, b int) bool { return a == b },
		"!=": func(a, b int) bool { return a != b },
		"<":  func(a, b int) bool { return a < b },
		"<=": func(a, b int) bool { return a <= b },
		">":  func(a, b int) bool { return a > b },
		">=": func(a, b int) bool { return a >= b },
	}
	for sign, holds := range signs {
		for i, a := range values {
			for j, b := range values {
				m := program(0, seqOf(cmpOf(sign, a, b, putOf(0)), hasOf(0, nil, seqOf())), 0)
				switch {
				case sign != "=" && sign != "!=" && (i > 1 || j > 1):
					faults(t, m, rows(""), 3)
				case holds(i, j):
					runs(t, m, "", "()", 5)
				default:
					runs(t, m, "", "", 3)
				}
			}
		}
	}
}

// P16.2: a Num and a Sym are not the same, though they read alike; Cons are by all their parts.
func TestSameValues(t *testing.T) {
	for _, c := range []struct {
		a, b api.RExpr
		same bool
	}{
		{numeral(1), texted("1"), false},
		{texted("A"), built("A"), false},
		{texted(""), numeral(0), false},
		{built("A"), built("A"), true},
		{built("A"), built("B"), false},
		{built("A", numeral(1)), built("A", op("-", numeral(3), numeral(2))), true},
		{built("A", numeral(1)), built("A", texted("1")), false},
		{built("A", numeral(1)), built("A", numeral(1), numeral(1)), false},
		{doubled(8), doubled(8), true},
	} {
		for sign, same := range map[string]bool{"=": c.same, "!=": !c.same} {
			out, _, e := Run(program(0, cmpOf(sign, c.a, c.b, putOf(0)), 0), [][][]api.Val{nil}, 9)
			if e != api.OK || (len(out[0]) == 1) != same {
				t.Errorf("%s %s %s: %v, %v", exprText(c.a), sign, exprText(c.b), out, e)
			}
		}
	}
}

// P16.2: texts that are too long may not be values, so that layer 3 has them all for the same, ahead of all others.
func TestLongTexts(t *testing.T) {
	long := texted(strings.Repeat("a", api.MaxText+1))
	longer := texted(strings.Repeat("b", api.MaxText+2))
	m := program(0, seqOf(putOf(0, numeral(math.MinInt64)), putOf(0, long), putOf(0, longer), cmpOf("=", long, longer, hasOf(0, exprsOf(longer), putOf(0, numeral(1))))), 1)
	out, steps, e := Run(m, [][][]api.Val{nil}, 99)
	if e != api.OK || steps != 7 || len(out[0]) != 3 || out[0][0][0].S != long.S || out[0][2][0].N != 1 {
		t.Errorf("%d, %v, %d tuples", steps, e, len(out[0]))
	}
}

// full: MaxFacts tuples, from 1 on.
func full(less int) [][]api.Val {
	var tuples [][]api.Val
	for i := range api.MaxFacts - less {
		tuples = append(tuples, []api.Val{numOf(i + 1)})
	}
	return tuples
}

// P16.2: a relation has MaxFacts tuples at most.
func TestFull(t *testing.T) {
	put := program(0, seqOf(putOf(0, numeral(0)), clearOf(0)), 1)
	runsOver(t, put, [][][]api.Val{full(1)}, "", 3)
	fails(t, put, [][][]api.Val{full(0)}, 2, 2, api.ErrFull)
	fails(t, put, [][][]api.Val{full(0)}, math.MaxInt, 2, api.ErrFull)
	fails(t, put, [][][]api.Val{full(0)}, 1, 1, api.ErrFuel)
	there := program(0, seqOf(putOf(0, numeral(7)), mergeOf(0, 0), mergeOf(0, 1), clearOf(0)), 1, 1)
	runsOver(t, there, [][][]api.Val{full(0), full(9)}, told([][][]api.Val{nil, full(9)}), 5)

	merge := program(0, seqOf(mergeOf(0, 1), clearOf(0)), 1, 1)
	runsOver(t, merge, [][][]api.Val{full(3), rows("3; 1022; 1023; 1024")[0]}, " | 3; 1022; 1023; 1024", 3)
	runsOver(t, merge, [][][]api.Val{full(3), rows("0; 1022; 2000")[0]}, " | 0; 1022; 2000", 3)
	fails(t, merge, [][][]api.Val{full(3), rows("0; 1022; 2000; a")[0]}, 9, 2, api.ErrFull)
	fails(t, merge, [][][]api.Val{full(0), rows("1; 5; 1025")[0]}, 9, 2, api.ErrFull)
	runsOver(t, merge, [][][]api.Val{nil, full(0)}, told([][][]api.Val{nil, full(0)}), 3)

	grow := program(1, loopOf([]int{0}, scanOf(0, 0, nil, putOf(0, op("+", reg(0), numeral(1))))), 1)
	// Each round has one step, the scan's, and two for each tuple.
	fails(t, grow, [][][]api.Val{full(1)}, math.MaxInt, 1+2*2+2*(api.MaxFacts-1)+2*api.MaxFacts, api.ErrFull)
	fails(t, grow, [][][]api.Val{{{numOf(math.MaxInt64)}}}, 7, 7, api.ErrFuel)
}

// P16.2: no fuel and no room count ahead of a fault.
func TestAheadOfFaults(t *testing.T) {
	wrong := letOf(0, op("/", numeral(1), numeral(0)))
	m := program(1, seqOf(wrong, putOf(0, numeral(0)), seqOf()), 1)
	faults(t, m, rows("1"), 4)
	fails(t, m, [][][]api.Val{full(0)}, 9, 3, api.ErrFull)
	fails(t, m, [][][]api.Val{full(0)}, 2, 2, api.ErrFuel)
	for fuel := range 4 {
		fails(t, m, rows(""), fuel, fuel, api.ErrFuel)
	}
	behind := program(1, seqOf(putOf(0, numeral(0)), wrong), 1)
	fails(t, behind, [][][]api.Val{full(0)}, 9, 2, api.ErrFull)
	faults(t, behind, [][][]api.Val{full(1)}, 3)
}

// P16.2: a fault of one tuple leaves the others' Kids as they are.
func TestFaultsGoOn(t *testing.T) {
	inverse := program(2, scanOf(0, 0, nil, letOf(1, op("/", numeral(10), reg(0)), putOf(1, reg(1)))), 1, 1)
	runs(t, inverse, "1; 3; 5 |", "1; 3; 5 | 2; 3; 10", 10)
	faults(t, inverse, rows("0; 1; 3; 5; a |"), 1+3*3+2*2)
	left := program(2, seqOf(letOf(0, numeral(1), seqOf(letOf(0, op("+", reg(0), texted("a")), seqOf()), cmpOf("=", reg(0), numeral(1), putOf(0, reg(0)))))), 1)
	faults(t, left, rows(""), 6)
	loop := program(1, loopOf([]int{0}, clearOf(0), putOf(1, op("%", numeral(1), numeral(0))), putOf(1, numeral(1)), scanOf(1, 0, nil)), 1, 1)
	faults(t, loop, rows("5; 6 |"), 7)
}
