package ram

import (
	"slices"

	"vestry/api"
	"vestry/num"
	"vestry/term"
)

// The limits that no other layer has.
const (
	maxRels  = 128
	maxRegs  = 256
	maxNodes = 64 // within one another
)

// checker goes through a program's nodes.
type checker struct {
	widths []int
	regs   int
	left   int          // how many nodes and expressions may still come
	set    [maxRegs]int // of each register, how many nodes around set it
}

func notWidth(width int) bool { return width < 0 || width > api.MaxWidth }

// counts counts a node or an expression, and tells whether there is room for it. A program may hold itself: the look at it ends here.
func (c *checker) counts() bool {
	c.left--
	return c.left >= 0
}

// node tells whether a node may be, where so many may lie within one another.
func (c *checker) node(n api.RNode, deep int) bool {
	return deep > 0 && c.counts() && !needless(n) && c.own(n) && c.kids(n, deep-1)
}

// needless tells whether a node has a list or a side that its Kind has not.
func needless(n api.RNode) bool {
	switch n.Kind {
	case api.RScan:
		n.Keys, n.Kids = nil, nil
	case api.RHas, api.RNot:
		n.Exprs, n.Kids = nil, nil
	case api.RCmp:
		n.L, n.R, n.Kids = api.RExpr{}, api.RExpr{}, nil
	case api.RLet:
		n.L, n.Kids = api.RExpr{}, nil
	case api.RMatch, api.RSeq:
		n.Kids = nil
	case api.RPut:
		n.Exprs = nil
	case api.RLoop:
		n.Rels, n.Kids = nil, nil
	}
	return len(n.Exprs) > 0 || len(n.Keys) > 0 || len(n.Rels) > 0 || len(n.Kids) > 0 || !isNone(n.L) || !isNone(n.R)
}

func isNone(x api.RExpr) bool {
	return x.Kind == 0 && x.N == 0 && x.S == "" && len(x.Kids) == 0
}

// own tells whether what a node's Kind has may be, its Kids aside.
func (c *checker) own(n api.RNode) bool {
	switch n.Kind {
	case api.RScan:
		return c.isRel(n.Rel) && c.keys(n) && c.areRegs(n)
	case api.RHas, api.RNot, api.RPut:
		return c.isRel(n.Rel) && len(n.Exprs) == c.widths[n.Rel] && c.exprs(n.Exprs, api.MaxDeep)
	case api.RCmp:
		return isComparison(n.Op) && c.expr(n.L, api.MaxDeep) && c.expr(n.R, api.MaxDeep)
	case api.RLet:
		return c.expr(n.L, api.MaxDeep) && c.areRegs(n)
	case api.RMatch:
		return !notWidth(n.Other) && isWord(n.S) && c.isSet(n.N) && c.areRegs(n)
	case api.RLoop:
		return !slices.ContainsFunc(n.Rels, func(rel int) bool { return !c.isRel(rel) })
	case api.RClear:
		return c.isRel(n.Rel)
	case api.RSwap, api.RMerge:
		return c.isRel(n.Rel) && c.isRel(n.Other) && c.widths[n.Rel] == c.widths[n.Other]
	}
	return n.Kind == api.RSeq
}

func (c *checker) isRel(rel int) bool { return rel >= 0 && rel < len(c.widths) }

func (c *checker) isSet(reg int) bool { return reg >= 0 && reg < c.regs && c.set[reg] > 0 }

// areRegs tells whether what a node sets are registers.
func (c *checker) areRegs(n api.RNode) bool {
	from, count := sets(c.widths, n)
	return from >= 0 && from <= c.regs-count
}

// sets are the registers that a node sets for its Kids: the first one, and how many.
func sets(widths []int, n api.RNode) (int, int) {
	switch n.Kind {
	case api.RScan:
		return n.From, widths[n.Rel]
	case api.RLet:
		return n.From, 1
	case api.RMatch:
		return n.From, n.Other
	}
	return 0, 0
}

// keys tells whether a scan's keys may be.
func (c *checker) keys(n api.RNode) bool {
	above := -1
	for _, k := range n.Keys {
		if k.Col <= above || k.Col >= c.widths[n.Rel] || !c.expr(k.X, api.MaxDeep) {
			return false
		}
		above = k.Col
	}
	return true
}

// kids tells whether a node's Kids may be, for which its registers are set.
func (c *checker) kids(n api.RNode, deep int) bool {
	c.around(n, 1)
	may := !slices.ContainsFunc(n.Kids, func(kid api.RNode) bool { return !c.node(kid, deep) })
	c.around(n, -1)
	return may
}

// around counts a node among those that set its registers, or no longer.
func (c *checker) around(n api.RNode, by int) {
	from, count := sets(c.widths, n)
	for reg := range count {
		c.set[from+reg] += by
	}
}

func (c *checker) exprs(list []api.RExpr, deep int) bool {
	return !slices.ContainsFunc(list, func(x api.RExpr) bool { return !c.expr(x, deep) })
}

// expr tells whether an expression may be, where so many may lie within one another.
func (c *checker) expr(x api.RExpr, deep int) bool {
	if deep == 0 || !c.counts() {
		return false
	}
	switch x.Kind {
	case api.EVar:
		return len(x.Kids) == 0 && c.isSet(x.N)
	case api.ENum, api.EText:
		return len(x.Kids) == 0
	case api.EOp:
		return len(x.Kids) == 2 && isOperator(x.S) && c.exprs(x.Kids, deep-1)
	case api.ECon:
		return isWord(x.S) && c.exprs(x.Kids, deep-1)
	}
	return false
}

func isComparison(op string) bool {
	_, e := num.Cmp(op, 1, 1)
	return e == api.OK
}

func isOperator(op string) bool {
	_, e := num.Op(op, 1, 1)
	return e == api.OK
}

// isWord tells whether a constructor may have a name.
func isWord(s string) bool { return term.Right(api.Val{Kind: api.Con, S: s}) }
