package copies

import "vestry/api"

// place is where a list lies, and how long it is.
type place[T any] struct {
	first *T
	size  int
}

// treeParts is how many parts of one thing have copies of their own at least.
const treeParts = 1 << 16

// maker copies things that may hold themselves, or one part again and again. The copying must end there, too: behind so many parts it copies each list once.
type maker struct {
	parts int
	left  []func() // what is still to be done in lists that are copied
}

// twin is a copy of a list, in whose parts the lists that they hold themselves are put by a function, later.
func twin[T any](m *maker, met map[place[T]][]T, list []T, within func(x *T)) []T {
	if len(list) == 0 {
		return Plain(list)
	}
	here := place[T]{&list[0], len(list)}
	if own, there := met[here]; there {
		return own
	}
	own := Plain(list)
	m.parts += len(own)
	if m.parts > treeParts {
		met[here] = own
	}
	m.left = append(m.left, func() {
		for i := range own {
			within(&own[i])
		}
	})
	return own
}

// end does what is left, and what comes of it.
func (m *maker) end() {
	for len(m.left) > 0 {
		next := m.left[len(m.left)-1]
		m.left = m.left[:len(m.left)-1]
		next()
	}
}

// Val is a copy of a value.
func Val(v api.Val) api.Val {
	if len(v.Args) == 0 {
		v.Args = Plain(v.Args)
		return v
	}
	m := &maker{}
	met := map[place[api.Val]][]api.Val{}
	var within func(v *api.Val)
	within = func(v *api.Val) { v.Args = twin(m, met, v.Args, within) }
	within(&v)
	m.end()
	return v
}

// ramMaker copies a program of loops.
type ramMaker struct {
	maker
	nodes map[place[api.RNode]][]api.RNode
	exprs map[place[api.RExpr]][]api.RExpr
	keys  map[place[api.RKey]][]api.RKey
}

// Ram is a copy of a program of loops.
func Ram(r api.Ram) api.Ram {
	m := &ramMaker{
		nodes: map[place[api.RNode]][]api.RNode{},
		exprs: map[place[api.RExpr]][]api.RExpr{},
		keys:  map[place[api.RKey]][]api.RKey{},
	}
	r.Widths = Plain(r.Widths)
	m.node(&r.Main)
	m.end()
	return r
}

func (m *ramMaker) node(n *api.RNode) {
	m.expr(&n.L)
	m.expr(&n.R)
	n.Exprs = twin(&m.maker, m.exprs, n.Exprs, m.expr)
	n.Keys = twin(&m.maker, m.keys, n.Keys, m.key)
	n.Rels = Plain(n.Rels)
	n.Kids = twin(&m.maker, m.nodes, n.Kids, m.node)
}

func (m *ramMaker) key(k *api.RKey) { m.expr(&k.X) }

func (m *ramMaker) expr(x *api.RExpr) { x.Kids = twin(&m.maker, m.exprs, x.Kids, m.expr) }
