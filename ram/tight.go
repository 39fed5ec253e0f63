package ram

import (
	"slices"

	"vestry/api"
	"vestry/copies"
)

// tightener makes the nodes of a program tight that has relations of these widths.
type tightener struct {
	widths []int
}

// node is a node made tight, from the innermost ones on.
func (t tightener) node(n api.RNode) api.RNode {
	n.Kids = copies.List(n.Kids, t.node)
	return t.scan(n)
}

// scan is a node made tight whose Kids are.
func (t tightener) scan(n api.RNode) api.RNode {
	if n.Kind != api.RScan || len(n.Kids) != 1 || n.Kids[0].Kind != api.RCmp {
		return n
	}
	cmp := n.Kids[0]
	less := n
	less.Kids = cmp.Kids
	if key, there := t.key(less, cmp); there {
		less.Keys = withKey(n.Keys, key)
		return t.scan(less)
	}
	if t.standsAround(less, cmp) {
		cmp.Kids = []api.RNode{t.scan(less)}
		return cmp
	}
	return n
}

// key is the key that a comparison becomes in a scan that has its Kids already, if it can.
func (t tightener) key(scan, cmp api.RNode) (api.RKey, bool) {
	if cmp.Op != "=" {
		return api.RKey{}, false
	}
	if col, there := t.freeColumn(scan, cmp.L); there && t.isSteady(scan, cmp.R) {
		return api.RKey{Col: col, X: cmp.R}, true
	}
	if col, there := t.freeColumn(scan, cmp.R); there && t.isSteady(scan, cmp.L) {
		return api.RKey{Col: col, X: cmp.L}, true
	}
	return api.RKey{}, false
}

// freeColumn is the column of a register of a scan's own, if no key has it.
func (t tightener) freeColumn(scan api.RNode, x api.RExpr) (int, bool) {
	if x.Kind != api.EVar || x.N < scan.From || x.N >= scan.From+t.widths[scan.Rel] {
		return 0, false
	}
	col := x.N - scan.From
	if slices.ContainsFunc(scan.Keys, func(k api.RKey) bool { return k.Col == col }) {
		return 0, false
	}
	return col, true
}

// standsAround tells whether a comparison may stand around a scan that has its Kids already.
func (t tightener) standsAround(scan, cmp api.RNode) bool {
	return (cmp.Op == "=" || cmp.Op == "!=") && t.isSteady(scan, cmp.L) && t.isSteady(scan, cmp.R) &&
		!slices.ContainsFunc(scan.Keys, func(k api.RKey) bool { return !isPlain(k.X) })
}

// isPlain tells whether an expression has a value always.
func isPlain(x api.RExpr) bool {
	return x.Kind == api.EVar || x.Kind == api.ENum || x.Kind == api.EText
}

// isSteady tells whether an expression has one value all the time that a scan goes on.
func (t tightener) isSteady(scan api.RNode, x api.RExpr) bool {
	return isPlain(x) && (x.Kind != api.EVar || !t.isSetIn(scan, x.N))
}

// isSetIn tells whether a node, or one within it, sets a register.
func (t tightener) isSetIn(n api.RNode, reg int) bool {
	from, count := sets(t.widths, n)
	return from <= reg && reg < from+count ||
		slices.ContainsFunc(n.Kids, func(kid api.RNode) bool { return t.isSetIn(kid, reg) })
}

// withKey is a new list of keys with one more at its place.
func withKey(keys []api.RKey, key api.RKey) []api.RKey {
	at := slices.IndexFunc(keys, func(k api.RKey) bool { return k.Col > key.Col })
	if at < 0 {
		at = len(keys)
	}
	return slices.Insert(slices.Clone(keys), at, key)
}
