package ram

import (
	"slices"

	"vestry/api"
)

// pair is where two lists lie, and how long they are.
type pair[T any] struct {
	a, b *T
	size int
}

// matcher holds programs' parts against each other. A program may hold itself, or one part again and again: of each pair of lists it goes through the parts once.
type matcher struct {
	nodes map[pair[api.RNode]]struct{}
	exprs map[pair[api.RExpr]]struct{}
	keys  map[pair[api.RKey]]struct{}
	left  []func() bool
}

func newMatcher() *matcher {
	return &matcher{
		nodes: map[pair[api.RNode]]struct{}{},
		exprs: map[pair[api.RExpr]]struct{}{},
		keys:  map[pair[api.RKey]]struct{}{},
	}
}

// mains tells whether two programs' outermost nodes are the same, with all that is in them.
func (m *matcher) mains(a, b api.RNode) bool {
	if !m.node(a, b) {
		return false
	}
	for len(m.left) > 0 {
		same := m.left[len(m.left)-1]
		m.left = m.left[:len(m.left)-1]
		if !same() {
			return false
		}
	}
	return true
}

// lists tells whether two lists are as long as each other, and leaves their parts for later: they may lie very deep.
func lists[T any](m *matcher, met map[pair[T]]struct{}, a, b []T, same func(a, b T) bool) bool {
	if len(a) != len(b) || len(a) == 0 {
		return len(a) == len(b)
	}
	here := pair[T]{&a[0], &b[0], len(a)}
	if _, there := met[here]; !there {
		met[here] = struct{}{}
		m.left = append(m.left, func() bool { return slices.EqualFunc(a, b, same) })
	}
	return true
}

func (m *matcher) node(a, b api.RNode) bool {
	return a.Kind == b.Kind && a.Rel == b.Rel && a.Other == b.Other && a.From == b.From && a.N == b.N && a.S == b.S && a.Op == b.Op &&
		m.expr(a.L, b.L) && m.expr(a.R, b.R) && slices.Equal(a.Rels, b.Rels) &&
		lists(m, m.exprs, a.Exprs, b.Exprs, m.expr) && lists(m, m.keys, a.Keys, b.Keys, m.key) && lists(m, m.nodes, a.Kids, b.Kids, m.node)
}

func (m *matcher) key(a, b api.RKey) bool { return a.Col == b.Col && m.expr(a.X, b.X) }

func (m *matcher) expr(a, b api.RExpr) bool {
	return a.Kind == b.Kind && a.N == b.N && a.S == b.S && lists(m, m.exprs, a.Kids, b.Kids, m.expr)
}
