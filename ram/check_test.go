package ram

import (
	"math"
	"slices"
	"strconv"
	"strings"
	"testing"

	"vestry/api"
)

// may: whether a program may be, and what Run and Tight make of one that may not.
func may(t *testing.T, name string, m api.Ram, want bool) {
	t.Helper()
	if got := Check(m); got != want {
		t.Errorf("%s: %v, want %v", name, got, want)
	}
	if want {
		return
	}
	if out, steps, e := Run(m, make([][][]api.Val, len(m.Widths)), 99); out != nil || steps != 0 || e != api.ErrArg {
		t.Errorf("%s: Run: %v, %d, %v", name, out, steps, e)
	}
	if !Same(Tight(m), m) {
		t.Errorf("%s: Tight is another one", name)
	}
}

// around: a node where the registers 0 to 3 are set, among relations of the widths 0 to 8, and one of 2.
func around(n api.RNode) api.Ram {
	one := numeral(1)
	return program(12, letOf(0, one, letOf(1, one, letOf(2, one, letOf(3, one, n)))), 0, 1, 2, 3, 4, 5, 6, 7, 8, 2)
}

// goodNodes: a node of each Kind, that may be where around sets it.
func goodNodes() map[string]api.RNode {
	kid := putOf(1, numeral(1))
	two := exprsOf(reg(0), numeral(1))
	return map[string]api.RNode{
		"scan":  scanOf(2, 4, keysOf(key(0, reg(0)), key(1, texted("a"))), kid),
		"has":   hasOf(2, two, kid),
		"not":   notOf(2, two, kid),
		"cmp":   cmpOf("<", reg(0), numeral(1), kid),
		"let":   letOf(4, op("+", reg(0), numeral(1)), kid),
		"match": matchOf(0, "A", 2, 4, kid),
		"put":   putOf(2, two...),
		"seq":   seqOf(kid),
		"loop":  loopOf([]int{1, 2}, kid),
		"clear": clearOf(2),
		"swap":  swapOf(2, 9),
		"merge": mergeOf(2, 9),
	}
}

// turned: a node that one turns.
func turned(n api.RNode, turn func(n *api.RNode)) api.RNode {
	turn(&n)
	return n
}

// P16.1: each Kind of node may be; other Kinds may not.
func TestKinds(t *testing.T) {
	for name, n := range goodNodes() {
		may(t, name, around(n), true)
		may(t, name+" within", around(seqOf(n, loopOf(nil, n))), true)
		for _, kind := range []int{0, -1, 13, 99, math.MinInt, math.MaxInt} {
			may(t, name+" of another Kind", around(turned(n, func(n *api.RNode) { n.Kind = kind })), false)
		}
	}
	for _, kind := range []int{0, -1, 13} {
		may(t, "outermost", program(1, api.RNode{Kind: kind}, 1), false)
	}
}

// P16.1: at most 128 relations, of 0 to MaxWidth columns; 0 to 256 registers.
func TestRelationsAndRegisters(t *testing.T) {
	for n, want := range map[int]bool{0: true, 1: true, 127: true, 128: true, 129: false, 256: false} {
		may(t, strconv.Itoa(n)+" relations", program(0, seqOf(), slices.Repeat([]int{8}, n)...), want)
	}
	may(t, "the last relation", program(0, clearOf(127), slices.Repeat([]int{0}, 128)...), true)
	may(t, "the one behind", program(0, clearOf(128), slices.Repeat([]int{0}, 128)...), false)
	for width, want := range map[int]bool{-1: false, 0: true, 1: true, 8: true, 9: false, math.MinInt: false, math.MaxInt: false} {
		may(t, strconv.Itoa(width)+" columns", program(0, seqOf(), 1, width, 2), want)
	}
	for regs, want := range map[int]bool{-1: false, 0: true, 1: true, 255: true, 256: true, 257: false, math.MinInt: false, math.MaxInt: false} {
		may(t, strconv.Itoa(regs)+" registers", program(regs, seqOf()), want)
	}
	may(t, "the last register", program(256, letOf(255, numeral(1), putOf(0, reg(255))), 1), true)
	may(t, "the one behind", program(256, letOf(256, numeral(1))), false)
	may(t, "none", program(0, letOf(0, numeral(1))), false)
}

// P16.1: the relations that a node has are some.
func TestSomeRelations(t *testing.T) {
	for name, n := range goodNodes() {
		has := slices.Contains([]string{"scan", "has", "not", "put", "clear", "swap", "merge"}, name)
		for _, rel := range []int{-1, 10, math.MinInt, math.MaxInt} {
			may(t, name+" of another Rel", around(turned(n, func(n *api.RNode) { n.Rel = rel })), !has)
			if name != "match" {
				may(t, name+" of another Other", around(turned(n, func(n *api.RNode) { n.Other = rel })), name != "swap" && name != "merge")
			}
		}
	}
	for _, rel := range []int{-1, 10, math.MinInt, math.MaxInt} {
		may(t, "loop", around(loopOf([]int{0, 9, rel, 0})), false)
	}
	may(t, "loop of none", around(loopOf(nil)), true)
	may(t, "loop of all", around(loopOf([]int{9, 0, 1, 2, 3, 4, 5, 6, 7, 8, 9, 9})), true)
	may(t, "loop of one very often", around(loopOf(make([]int, 1<<16))), true)
	for rel := range 10 {
		for other := range 10 {
			alike := rel == other || rel+other == 11 && rel*other == 18
			may(t, "swap", around(swapOf(rel, other)), alike)
			may(t, "merge", around(mergeOf(rel, other)), alike)
		}
	}
}

// P16.1: Cols rise, and are columns.
func TestCols(t *testing.T) {
	x := numeral(1)
	for width := range 9 {
		var all []api.RKey
		for col := range width {
			all = append(all, key(col, x))
			may(t, "one key", around(scanOf(width, 4, keysOf(key(col, x)))), true)
			may(t, "a key twice", around(scanOf(width, 4, keysOf(key(col, x), key(col, x)))), false)
			may(t, "some keys", around(scanOf(width, 4, all)), true)
			may(t, "and one behind", around(scanOf(width, 4, append(slices.Clone(all), key(width, x)))), false)
			may(t, "and the first again", around(scanOf(width, 4, append(slices.Clone(all), key(0, x)))), false)
		}
		for _, col := range []int{-1, width, math.MinInt, math.MaxInt} {
			may(t, "no column", around(scanOf(width, 4, keysOf(key(col, x)))), false)
		}
	}
	may(t, "falling", around(scanOf(3, 4, keysOf(key(2, x), key(1, x)))), false)
	may(t, "with a gap", around(scanOf(8, 4, keysOf(key(1, x), key(4, x), key(7, x)))), true)
}

// P16.1: Exprs are as many as columns.
func TestExprs(t *testing.T) {
	for width := range 9 {
		for n := range 11 {
			exprs := slices.Repeat(exprsOf(numeral(1)), n)
			may(t, "has", around(hasOf(width, exprs)), n == width)
			may(t, "not", around(notOf(width, exprs)), n == width)
			may(t, "put", around(putOf(width, exprs...)), n == width)
		}
	}
}

// P16.1: From, and what comes behind it, are registers; Other of an RMatch is 0 to MaxWidth.
func TestFrom(t *testing.T) {
	for width := range 9 {
		for _, from := range []int{-1, 0, 3, 4, 5, 6, 7, 8, 9, 10, 11, 12, 13, math.MinInt, math.MaxInt, math.MaxInt - 3} {
			fits := from >= 0 && from <= 12-width
			may(t, "scan", around(scanOf(width, from, nil)), fits)
			may(t, "match", around(matchOf(0, "A", width, from)), fits)
			may(t, "let", around(letOf(from, numeral(1))), from >= 0 && from < 12)
		}
	}
	for _, other := range []int{-1, 9, 10, math.MinInt, math.MaxInt} {
		may(t, "Other", around(matchOf(0, "A", other, 0)), false)
	}
}

// P16.1: the S of a constructor and of an RMatch is a word.
func TestWords(t *testing.T) {
	long := strings.Repeat("a", api.MaxName)
	for word, want := range map[string]bool{
		"A": true, "a": true, "_": true, "_1": true, "Z9_z": true, long: true,
		"": false, "1": false, "1a": false, "a.b": false, "a b": false, "a-": false, "$A": false, "é": false, "a\x00": false, long + "a": false, strings.Repeat("a", 1<<20): false,
	} {
		may(t, "match", around(matchOf(0, word, 0, 0)), want)
		for name, m := range everywhere(built(word, numeral(1))) {
			may(t, name, m, want)
		}
		may(t, "within", around(letOf(4, built("A", op("+", numeral(1), built(word))))), want)
	}
}

// everywhere: programs with an expression at each place that one has.
func everywhere(x api.RExpr) map[string]api.Ram {
	one := numeral(1)
	return map[string]api.Ram{
		"key":          around(scanOf(2, 4, keysOf(key(1, x)))),
		"second key":   around(scanOf(2, 4, keysOf(key(0, one), key(1, x)))),
		"has":          around(hasOf(2, exprsOf(x, one))),
		"not":          around(notOf(2, exprsOf(one, x))),
		"put":          around(putOf(2, one, x)),
		"left":         around(cmpOf("=", x, one)),
		"right":        around(cmpOf("=", one, x)),
		"let":          around(letOf(4, x)),
		"in an op":     around(letOf(4, op("-", x, one))),
		"in an op, R":  around(letOf(4, op("-", one, x))),
		"in a con":     around(letOf(4, built("A", one, x, one))),
		"in a loop":    around(loopOf(nil, seqOf(), putOf(1, x))),
		"deeper nodes": around(scanOf(8, 4, nil, hasOf(0, nil, matchOf(5, "A", 1, 6, seqOf(letOf(7, x)))))),
	}
}

// P16.1: Op is a comparison's; an operator's S is one, with two Kids.
func TestSigns(t *testing.T) {
	for _, sign := range []string{"=", "!=", "<", "<=", ">", ">=", "+", "-", "*", "/", "%", "", "==", "<>", "&", "= ", "a", "**"} {
		at := slices.Index([]string{"=", "!=", "<", "<=", ">", ">=", "+", "-", "*", "/", "%"}, sign)
		may(t, "cmp "+sign, around(cmpOf(sign, reg(0), reg(1))), at >= 0 && at < 6)
		for name, m := range everywhere(op(sign, reg(0), reg(1))) {
			may(t, name+" "+sign, m, at >= 6)
		}
	}
	for kids := range 5 {
		x := api.RExpr{Kind: api.EOp, S: "+", Kids: slices.Repeat(exprsOf(numeral(1)), kids)}
		for name, m := range everywhere(x) {
			may(t, name, m, kids == 2)
		}
	}
}

// P16.1: an expression is a register, a number, a text, an operator or a constructor, and the first three have no Kids.
func TestExpressions(t *testing.T) {
	for name, c := range map[string]struct {
		x   api.RExpr
		may bool
	}{
		"a register":            {reg(3), true},
		"a number":              {numeral(math.MinInt64), true},
		"a text":                {texted(""), true},
		"a long text":           {texted(strings.Repeat("a", api.MaxText+1)), true},
		"a constructor of none": {built("A"), true},
		"a constructor of nine": {built("A", slices.Repeat(exprsOf(numeral(1)), 9)...), true},
		"of 2000":               {built("A", slices.Repeat(exprsOf(numeral(1)), 2000)...), true},
		"none":                  {api.RExpr{}, false},
		"any":                   {api.RExpr{Kind: api.EAny}, false},
		"beyond":                {api.RExpr{Kind: 7}, false},
		"below":                 {api.RExpr{Kind: -1}, false},
		"a register with a Kid": {api.RExpr{Kind: api.EVar, Kids: exprsOf(numeral(1))}, false},
		"a number with a Kid":   {api.RExpr{Kind: api.ENum, Kids: exprsOf(numeral(1))}, false},
		"a text with a Kid":     {api.RExpr{Kind: api.EText, Kids: exprsOf(numeral(1))}, false},
		"empty Kids":            {api.RExpr{Kind: api.EText, Kids: []api.RExpr{}}, true},
		"a wrong Kid":           {built("A", numeral(1), api.RExpr{}), false},
		"a wrong Kid of an op":  {op("+", numeral(1), api.RExpr{Kind: 9}), false},
	} {
		for place, m := range everywhere(c.x) {
			may(t, name+", "+place, m, c.may)
		}
	}
}

// P16.1: a register that is asked for is one that a node around sets, for its Kids.
func TestRegisters(t *testing.T) {
	for reg0, want := range map[int]bool{0: true, 3: true, 4: false, 11: false, 12: false, -1: false, 256: false, math.MinInt: false, math.MaxInt: false} {
		for name, m := range everywhere(op("+", reg(reg0), numeral(1))) {
			if name != "deeper nodes" {
				may(t, name+" "+strconv.Itoa(reg0), m, want)
			}
		}
		may(t, "match", around(matchOf(reg0, "A", 0, 0)), want)
	}
	x := exprsOf(reg(5))
	for name, c := range map[string]struct {
		n   api.RNode
		may bool
	}{
		"around, a let":            {letOf(5, numeral(1), putOf(1, x...)), true},
		"around, a scan":           {scanOf(2, 4, nil, putOf(1, x...)), true},
		"around, a match":          {matchOf(0, "A", 2, 4, putOf(1, x...)), true},
		"further out":              {letOf(5, numeral(1), seqOf(loopOf(nil, hasOf(0, nil, cmpOf("=", reg(0), reg(1), letOf(6, numeral(1), putOf(1, x...))))))), true},
		"set twice":                {letOf(5, numeral(1), seqOf(letOf(5, numeral(2)), putOf(1, x...))), true},
		"ahead of a scan":          {scanOf(2, 6, nil, putOf(1, x...)), false},
		"behind a scan":            {scanOf(1, 4, nil, putOf(1, x...)), false},
		"behind a match":           {matchOf(0, "A", 1, 4, putOf(1, x...)), false},
		"of a match of none":       {matchOf(0, "A", 0, 5, putOf(1, x...)), false},
		"of a scan of none":        {scanOf(0, 5, nil, putOf(1, x...)), false},
		"beside, ahead":            {seqOf(letOf(5, numeral(1)), putOf(1, x...)), false},
		"beside, behind":           {seqOf(putOf(1, x...), letOf(5, numeral(1))), false},
		"beside, further in":       {seqOf(letOf(5, numeral(1), scanOf(1, 5, nil)), loopOf(nil, putOf(1, x...))), false},
		"within":                   {hasOf(1, x, letOf(5, numeral(1))), false},
		"a let's own":              {letOf(5, reg(5)), false},
		"a let's own, set around":  {letOf(5, numeral(1), letOf(5, reg(5))), true},
		"a scan's own":             {scanOf(1, 5, keysOf(key(0, reg(5)))), false},
		"a scan's own, set around": {letOf(5, numeral(1), scanOf(1, 5, keysOf(key(0, reg(5))))), true},
		"a match's own":            {matchOf(5, "A", 1, 5), false},
		"a match's own, around":    {letOf(5, numeral(1), matchOf(5, "A", 1, 5)), true},
		"of no node":               {letOf(5, numeral(1), cmpOf("=", reg(5), reg(5), putOf(2, reg(5), reg(4)))), false},
		"other fields set nothing": {seqOf(turned(seqOf(putOf(1, x...)), func(n *api.RNode) { n.From, n.Other, n.Rel = 5, 1, 1 })), false},
	} {
		may(t, name, around(c.n), c.may)
	}
}

// P16.1: Kids, Keys, Exprs, Rels, L and R are none where a Kind has them not.
func TestNeedless(t *testing.T) {
	has := map[string]string{
		"scan": "Keys Kids", "has": "Exprs Kids", "not": "Exprs Kids", "cmp": "L R Kids", "let": "L Kids", "match": "Kids", "put": "Exprs", "seq": "Kids", "loop": "Rels Kids",
	}
	for name, n := range goodNodes() {
		own := strings.Fields(has[name])
		for field, turn := range map[string]func(n *api.RNode){
			"Kids":  func(n *api.RNode) { n.Kids = append(n.Kids, seqOf()) },
			"Keys":  func(n *api.RNode) { n.Keys = keysOf(key(0, numeral(1))) },
			"Exprs": func(n *api.RNode) { n.Exprs = exprsOf(numeral(1), numeral(1)) },
			"Rels":  func(n *api.RNode) { n.Rels = []int{1} },
			"L":     func(n *api.RNode) { n.L = numeral(1) },
			"R":     func(n *api.RNode) { n.R = numeral(1) },
		} {
			may(t, name+" with "+field, around(turned(n, turn)), slices.Contains(own, field))
		}
		may(t, name+" with empty lists", around(turned(n, func(n *api.RNode) {
			if len(n.Kids) == 0 {
				n.Kids = []api.RNode{}
			}
			if len(n.Keys) == 0 {
				n.Keys = []api.RKey{}
			}
			if len(n.Exprs) == 0 {
				n.Exprs = []api.RExpr{}
			}
			if len(n.Rels) == 0 {
				n.Rels = []int{}
			}
			if n.R.Kind == 0 {
				n.R.Kids = []api.RExpr{}
			}
		})), true)
		for side, turn := range map[string]func(n *api.RNode){
			"N":    func(n *api.RNode) { n.R.N = 1 },
			"S":    func(n *api.RNode) { n.R.S = "a" },
			"Kids": func(n *api.RNode) { n.R.Kids = exprsOf(numeral(1)) },
		} {
			if name != "cmp" {
				may(t, name+" with an R that has "+side, around(turned(n, turn)), false)
			}
		}
	}
}

// P16.1: other fields that a Kind has not do not count.
func TestOtherFields(t *testing.T) {
	odd := func(x *api.RExpr) {
		switch x.Kind {
		case api.EVar:
			x.S = "no register\x00"
		case api.ENum:
			x.S = strings.Repeat("a", 1<<17)
		case api.EText, api.EOp, api.ECon:
			x.N = -7
		}
	}
	for name, n := range goodNodes() {
		all := turned(n, func(n *api.RNode) {
			odd(&n.L)
			odd(&n.R)
			for i := range n.Exprs {
				odd(&n.Exprs[i])
			}
			for i := range n.Keys {
				odd(&n.Keys[i].X)
			}
			if n.Kind != api.RMatch {
				n.N, n.S = -5, "1"
			}
			if n.Kind != api.RCmp {
				n.Op = "?"
			}
			if n.Kind != api.RScan && n.Kind != api.RLet && n.Kind != api.RMatch {
				n.From = -9
			}
			if n.Rel == 0 {
				n.Rel = 1 << 40
			}
			if n.Other == 0 {
				n.Other = -8
			}
		})
		may(t, name, around(all), true)
	}
}

// P16.1: nodes and expressions together are at most MaxCode.
func TestMany(t *testing.T) {
	for _, n := range []int{api.MaxCode - 2, api.MaxCode - 1, api.MaxCode, api.MaxCode + 1, 2 * api.MaxCode} {
		fits := n <= api.MaxCode
		may(t, "nodes", program(0, seqOf(slices.Repeat([]api.RNode{seqOf()}, n-1)...)), fits)
		may(t, "expressions", program(1, letOf(0, built("A", slices.Repeat(exprsOf(numeral(1)), n-2)...))), fits)
		may(t, "in Exprs", program(0, putOf(0, built("A", slices.Repeat(exprsOf(numeral(1)), n-3)...), texted("a")), 2), fits)
		may(t, "in Keys", program(1, scanOf(0, 0, keysOf(key(0, built("A", slices.Repeat(exprsOf(numeral(1)), n-2)...)))), 1), fits)
		may(t, "in sides", program(0, cmpOf("=", built("A", slices.Repeat(exprsOf(texted("a")), n/2-2)...), built("A", slices.Repeat(exprsOf(numeral(1)), n-n/2-1)...))), fits)
		both := seqOf(slices.Repeat([]api.RNode{putOf(0, numeral(1))}, (n-1)/2)...)
		may(t, "both", program(0, turned(both, func(b *api.RNode) { b.Kids = append(b.Kids, slices.Repeat([]api.RNode{seqOf()}, (n-1)%2)...) }), 1), fits)
		var deep api.RNode
		for range 60 {
			deep = seqOf(deep)
			if deep.Kids[0].Kind == 0 {
				deep = seqOf()
			}
		}
		deep.Kids = append(deep.Kids, slices.Repeat([]api.RNode{seqOf()}, n-60)...)
		may(t, "deep and wide", program(0, deep), fits)
	}
}

// P16.1: at most 64 nodes, and MaxDeep expressions, lie within one another.
func TestDeep(t *testing.T) {
	wrap := map[string]func(n api.RNode) api.RNode{
		"scan":  func(n api.RNode) api.RNode { return scanOf(1, 0, nil, n) },
		"has":   func(n api.RNode) api.RNode { return hasOf(0, nil, n) },
		"not":   func(n api.RNode) api.RNode { return notOf(0, nil, n) },
		"cmp":   func(n api.RNode) api.RNode { return cmpOf("=", numeral(1), numeral(1), n) },
		"let":   func(n api.RNode) api.RNode { return letOf(0, numeral(1), n) },
		"match": func(n api.RNode) api.RNode { return letOf(0, numeral(1), matchOf(0, "A", 1, 0, n)) },
		"seq":   func(n api.RNode) api.RNode { return seqOf(seqOf(), n, seqOf()) },
		"loop":  func(n api.RNode) api.RNode { return loopOf(nil, n) },
	}
	for name, around := range wrap {
		for _, inner := range []api.RNode{seqOf(), putOf(0), clearOf(1)} {
			n, deep := inner, 1
			for range 70 {
				may(t, strconv.Itoa(deep)+" "+name, program(1, n, 0, 1), deep <= 64)
				n, deep = around(n), deep+1
				if name == "match" {
					deep++
				}
			}
		}
	}
	for _, inner := range []api.RExpr{numeral(1), texted("a"), reg(0), built("A")} {
		for con := range 2 {
			x := inner
			for deep := 1; deep < 36; deep++ {
				for name, m := range everywhere(x) {
					in := deep
					if strings.HasPrefix(name, "in a") && name != "in a loop" {
						in++
					}
					may(t, strconv.Itoa(deep)+" "+name, m, in <= api.MaxDeep)
				}
				if con == 0 {
					x = op("+", numeral(1), x)
				} else {
					x = built("A", x, numeral(1))
				}
			}
		}
	}
}

// P16.1, R1: programs that hold themselves may not be; the looks at them end.
func TestHoldsItself(t *testing.T) {
	nodes := make([]api.RNode, 2)
	nodes[0], nodes[1] = seqOf(nodes...), seqOf()
	nodes[0].Kids = nodes
	exprs := make([]api.RExpr, 1)
	exprs[0] = built("A")
	exprs[0].Kids = exprs
	may(t, "node", program(0, nodes[0]), false)
	may(t, "expression", program(1, letOf(0, exprs[0])), false)
	may(t, "Exprs", program(1, putOf(0, exprs...), 1), false)
	keys := keysOf(key(0, exprs[0]))
	may(t, "keys", program(1, scanOf(0, 0, keys), 1), false)
	wide := seqOf()
	for range 60 {
		wide = seqOf(wide, wide)
	}
	may(t, "one part again and again", program(0, wide), false)
	x := built("A")
	for range 30 {
		x = built("A", x, x, x)
	}
	may(t, "one expression again and again", program(1, letOf(0, x)), false)
}
