package ram

import (
	"math"
	"math/rand"
	"slices"
	"testing"

	"vestry/api"
)

// tally counts what came.
type tally map[string]int

// enough: each of these came often enough.
func (n tally) enough(t *testing.T, least int, names ...string) {
	t.Helper()
	for _, name := range names {
		if n[name] < least {
			t.Errorf("%s came %d times: %v", name, n[name], n)
		}
	}
}

// chance makes programs by chance.
type chance struct {
	*rand.Rand
	widths []int
	regs   int
	apart  bool // whether scans set no registers that nodes around them set
}

func newChance(seed int64) *chance { return &chance{Rand: rand.New(rand.NewSource(seed))} }

// one: one time of n.
func (c *chance) one(n int) bool { return c.Intn(n) == 0 }

func (c *chance) word(from ...string) string { return from[c.Intn(len(from))] }

func (c *chance) rel() int { return c.Intn(len(c.widths)) }

// program: one that may be, mostly.
func (c *chance) program() api.Ram {
	c.widths, c.regs = nil, 1+c.Intn(7)
	for range 1 + c.Intn(4) {
		c.widths = append(c.widths, min(c.Intn(4), c.regs))
	}
	main := c.node(nil, 6)
	if c.one(2) {
		main = c.chain(nil, 5)
	}
	return api.Ram{Widths: c.widths, Regs: c.regs, Main: main}
}

// from: where so many registers begin.
func (c *chance) from(count int) int { return c.Intn(c.regs - min(count, c.regs) + 1) }

// with: registers that are set, and these.
func with(set []int, from, count int) []int {
	set = slices.Clone(set)
	for i := range count {
		if !slices.Contains(set, from+i) {
			set = append(set, from+i)
		}
	}
	return set
}

// plain: a register, a number or a text.
func (c *chance) plain(set []int) api.RExpr {
	switch {
	case len(set) > 0 && !c.one(4):
		return reg(set[c.Intn(len(set))])
	case c.one(3):
		return texted(c.word("a", "b"))
	}
	return numeral(c.Intn(4))
}

func (c *chance) expr(set []int, deep int) api.RExpr {
	switch {
	case deep == 0 || c.one(2):
		return c.plain(set)
	case c.one(2):
		return built(c.word("A", "B"), c.exprs(set, c.Intn(3), deep-1)...)
	}
	return op(c.word("+", "-", "*", "/", "%"), c.expr(set, deep-1), c.expr(set, deep-1))
}

func (c *chance) exprs(set []int, n, deep int) []api.RExpr {
	var list []api.RExpr
	for range n {
		list = append(list, c.expr(set, deep))
	}
	return list
}

func (c *chance) keys(set []int, width int) []api.RKey {
	var keys []api.RKey
	for col := range width {
		if c.one(4) {
			x := c.plain(set)
			if c.one(4) {
				x = c.expr(set, 2)
			}
			keys = append(keys, key(col, x))
		}
	}
	return keys
}

func (c *chance) kids(set []int, deep int) []api.RNode {
	var kids []api.RNode
	if deep > 0 {
		for range 1 + c.Intn(2) + c.Intn(2) {
			kids = append(kids, c.node(set, deep-1))
		}
	}
	return kids
}

// end: a node without Kids.
func (c *chance) end(set []int) api.RNode {
	rel, other := c.rel(), c.rel()
	for c.widths[other] != c.widths[rel] {
		other = c.rel()
	}
	switch c.Intn(8) {
	case 0:
		return clearOf(rel)
	case 1:
		return swapOf(rel, other)
	case 2:
		return mergeOf(rel, other)
	}
	return putOf(rel, c.exprs(set, c.widths[rel], 2)...)
}

func (c *chance) node(set []int, deep int) api.RNode {
	rel := c.rel()
	switch kind := c.Intn(16); {
	case deep == 0 || kind < 3:
		return c.end(set)
	case kind < 8:
		return c.chain(set, deep)
	case kind < 9:
		return hasOf(rel, c.exprs(set, c.widths[rel], 1), c.kids(set, deep)...)
	case kind < 10:
		return notOf(rel, c.exprs(set, c.widths[rel], 1), c.kids(set, deep)...)
	case kind < 11:
		return cmpOf(c.word("=", "!=", "<", "<=", ">", ">="), c.expr(set, 1), c.expr(set, 1), c.kids(set, deep)...)
	case kind < 12:
		from := c.from(1)
		return letOf(from, c.expr(set, 2), c.kids(with(set, from, 1), deep)...)
	case kind < 13 && len(set) > 0:
		n := c.Intn(min(3, c.regs+1))
		from := c.from(n)
		return matchOf(set[c.Intn(len(set))], c.word("A", "B"), n, from, c.kids(with(set, from, n), deep)...)
	case kind < 14:
		return c.loop(set, deep)
	}
	return seqOf(c.kids(set, deep)...)
}

// loop: one that ends, sometimes.
func (c *chance) loop(set []int, deep int) api.RNode {
	var rels []int
	for range c.Intn(3) {
		rels = append(rels, c.rel())
	}
	kids := c.kids(set, deep)
	for _, rel := range rels {
		if !c.one(4) {
			kids = append(kids, clearOf(rel))
		}
	}
	return loopOf(rels, kids...)
}

// chain: a scan, and within it comparisons, mostly of its own registers and others, one within the other.
func (c *chance) chain(set []int, deep int) api.RNode {
	rel := c.rel()
	width := c.widths[rel]
	from := c.from(width)
	own := with(set, from, width)
	if c.apart && len(own) < len(set)+width {
		return c.end(set)
	}
	n := scanOf(rel, from, c.keys(set, width))
	at := &n
	for range c.Intn(4) {
		l, r := c.plain(own), c.plain(own)
		if c.one(8) {
			r = c.expr(own, 1)
		}
		at.Kids = []api.RNode{cmpOf(c.word("=", "=", "=", "!=", "<"), l, r)}
		at = &at.Kids[0]
	}
	at.Kids = c.kids(own, deep-1)
	if len(at.Kids) > 1 && c.one(3) {
		at.Kids = at.Kids[:1]
	}
	return n
}

// value: a value that may be.
func (c *chance) value(deep int) api.Val {
	switch {
	case !c.one(3):
		return numOf(c.Intn(4))
	case deep == 0 || c.one(2):
		return symOf(c.word("a", "b"))
	}
	v := conOf(c.word("A", "B"))
	for range c.Intn(3) {
		v.Args = append(v.Args, c.value(deep-1))
	}
	return v
}

// tuples: some for each relation.
func (c *chance) tuples(widths []int) [][][]api.Val {
	in := make([][][]api.Val, len(widths))
	for i, width := range widths {
		for range c.Intn(6) {
			tuple := make([]api.Val, min(max(width, 0), 9))
			for col := range tuple {
				tuple[col] = c.value(2)
			}
			in[i] = append(in[i], tuple)
		}
	}
	return in
}

// nodesOf: all nodes of a program, outer ones first.
func nodesOf(n *api.RNode) []*api.RNode {
	list := []*api.RNode{n}
	for i := range n.Kids {
		list = append(list, nodesOf(&n.Kids[i])...)
	}
	return list
}

// exprsIn: all expressions of a node, but for its Kids'.
func exprsIn(n *api.RNode) []*api.RExpr {
	var list []*api.RExpr
	var add func(x *api.RExpr)
	add = func(x *api.RExpr) {
		list = append(list, x)
		for i := range x.Kids {
			add(&x.Kids[i])
		}
	}
	if n.Kind == api.RCmp || n.Kind == api.RLet {
		add(&n.L)
	}
	if n.Kind == api.RCmp {
		add(&n.R)
	}
	for i := range n.Exprs {
		add(&n.Exprs[i])
	}
	for i := range n.Keys {
		add(&n.Keys[i].X)
	}
	return list
}

func (c *chance) number() int {
	odd := []int{-1, 0, 1, 2, 3, 4, 5, 6, 7, 8, 9, 255, 256, math.MinInt, math.MaxInt}
	return odd[c.Intn(len(odd))]
}

func (c *chance) text() string { return c.word("", "A", "a1", "1", "=", "<", "+", "%", "a.b", "_") }

// someNode: a node of a program; one of a Kind that is rare comes as often as others.
func (c *chance) someNode(m *api.Ram) *api.RNode {
	nodes := nodesOf(&m.Main)
	kind := 1 + c.Intn(api.RMerge)
	if alike := slices.DeleteFunc(slices.Clone(nodes), func(n *api.RNode) bool { return n.Kind != kind }); len(alike) > 0 {
		nodes = alike
	}
	return nodes[c.Intn(len(nodes))]
}

// wrong turns something in a program, so that it may not be, mostly.
func (c *chance) wrong(m *api.Ram) {
	n := c.someNode(m)
	exprs := exprsIn(n)
	switch what := c.Intn(18); {
	case n.Kind == api.RMatch && what < 9:
		c.wrongMatch(n)
	case n.Kind == api.RLoop && what < 9:
		n.Rels = append(n.Rels, c.number())
	case what < 4 && len(exprs) > 0:
		c.wrongExpr(exprs[c.Intn(len(exprs))])
	case what < 5:
		n.Kind = c.number()
	case what < 6:
		n.Rel = c.number()
	case what < 7:
		n.Other = c.number()
	case what < 9:
		n.From = c.number()
	case what < 10:
		n.Op = c.text()
	case what < 11:
		n.L = c.expr([]int{0, 1}, 1)
	case what < 12:
		n.R = c.expr([]int{0, 1}, 1)
	case what < 13:
		n.Exprs = append(n.Exprs, c.expr([]int{0, 1}, 1))
	case what < 14:
		n.Keys = append(n.Keys, key(c.number(), numeral(1)))
	case what < 15:
		n.Rels = append(n.Rels, c.number())
	case what < 16:
		n.Kids = append(n.Kids, c.end([]int{0, 1}))
	case what < 17:
		m.Widths = slices.Clone(m.Widths)
		m.Widths[c.Intn(len(m.Widths))] = c.number()
	default:
		m.Regs = c.number()
	}
}

func (c *chance) wrongMatch(n *api.RNode) {
	switch c.Intn(4) {
	case 0:
		n.Other = c.number()
	case 1:
		n.From = c.number()
	case 2:
		n.N = c.number()
	default:
		n.S = c.text()
	}
}

func (c *chance) wrongExpr(x *api.RExpr) {
	switch c.Intn(4) {
	case 0:
		x.Kind = c.Intn(9) - 1
	case 1:
		x.N = c.number()
	case 2:
		x.S = c.text()
	default:
		x.Kids = append(x.Kids, numeral(1))
	}
}
