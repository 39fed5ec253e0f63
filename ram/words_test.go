package ram

import (
	"maps"
	"slices"

	"vestry/api"
	"vestry/num"
	"vestry/term"
)

// What the calls answer, by the words of chapter 16, in their order and without haste.

// spot is a node, with those around it, outer ones first.
type spot struct {
	api.RNode
	around []api.RNode
}

func spots(n api.RNode, around []api.RNode) []spot {
	list := []spot{{n, around}}
	for _, kid := range n.Kids {
		list = append(list, spots(kid, append(slices.Clone(around), n))...)
	}
	return list
}

// exprLists: the expressions that a node has, and the others that stand in it; Keys without their Cols.
func exprLists(n api.RNode) (has, others []api.RExpr) {
	var keys []api.RExpr
	for _, k := range n.Keys {
		keys = append(keys, k.X)
	}
	sides := []api.RExpr{n.L, n.R}
	switch n.Kind {
	case api.RScan:
		return keys, slices.Concat(n.Exprs, sides)
	case api.RHas, api.RNot, api.RPut:
		return n.Exprs, slices.Concat(keys, sides)
	case api.RCmp:
		return sides, slices.Concat(keys, n.Exprs)
	case api.RLet:
		return sides[:1], slices.Concat(keys, n.Exprs, sides[1:])
	}
	return nil, slices.Concat(keys, n.Exprs, sides)
}

// exprsBy: an expression and its Kids, and theirs, with how deep they lie.
func exprsBy(x api.RExpr, deep int, yield func(x api.RExpr, deep int)) {
	yield(x, deep)
	for _, kid := range x.Kids {
		exprsBy(kid, deep+1, yield)
	}
}

// settersOf: the registers that a node sets.
func settersOf(widths []int, n api.RNode) []int {
	count := 0
	switch n.Kind {
	case api.RScan:
		if n.Rel < 0 || n.Rel >= len(widths) {
			return nil
		}
		count = widths[n.Rel]
	case api.RLet:
		count = 1
	case api.RMatch:
		count = n.Other
	}
	var regs []int
	for i := 0; i < count && i < 10; i++ {
		regs = append(regs, n.From+i)
	}
	return regs
}

// law: whether a program, with all its nodes, is what a program that may be is.
type law func(m api.Ram, all []spot) bool

// laws: what a program that may be is, by name.
func laws() map[string]law {
	all := wholeLaws()
	maps.Copy(all, nodeLaws())
	maps.Copy(all, listLaws())
	maps.Copy(all, exprLaws())
	return all
}

// eachSpot: what holds of each node.
func eachSpot(holds func(m api.Ram, s spot) bool) law {
	return func(m api.Ram, all []spot) bool {
		return !slices.ContainsFunc(all, func(s spot) bool { return !holds(m, s) })
	}
}

// eachExpr: what holds of each expression of each node.
func eachExpr(holds func(m api.Ram, s spot, x api.RExpr, deep int) bool) law {
	return eachSpot(func(m api.Ram, s spot) bool {
		all := true
		has, _ := exprLists(s.RNode)
		for _, x := range has {
			exprsBy(x, 1, func(x api.RExpr, deep int) { all = all && holds(m, s, x, deep) })
		}
		return all
	})
}

func isSome(m api.Ram, rel int) bool { return 0 <= rel && rel < len(m.Widths) }

func is(s spot, kinds ...int) bool { return slices.Contains(kinds, s.Kind) }

// asks: whether a node may ask for a register.
func asks(m api.Ram, s spot, reg int) bool {
	return 0 <= reg && reg < m.Regs && slices.ContainsFunc(s.around, func(n api.RNode) bool { return slices.Contains(settersOf(m.Widths, n), reg) })
}

func mayBeWord(s string) bool { return term.Right(api.Val{Kind: api.Con, S: s}) }

// wholeLaws: those of what a program is in all.
func wholeLaws() map[string]law {
	return map[string]law{
		"relations": func(m api.Ram, all []spot) bool { return len(m.Widths) <= 128 },
		"widths": func(m api.Ram, all []spot) bool {
			return len(m.Widths) == 0 || slices.Min(m.Widths) >= 0 && slices.Max(m.Widths) <= 8
		},
		"registers": func(m api.Ram, all []spot) bool { return m.Regs >= 0 && m.Regs <= 256 },
		"code": func(m api.Ram, all []spot) bool {
			count := len(all)
			for _, s := range all {
				has, _ := exprLists(s.RNode)
				for _, x := range has {
					exprsBy(x, 1, func(api.RExpr, int) { count++ })
				}
			}
			return count <= 4096
		},
	}
}

// nodeLaws: those of a node's numbers and texts.
func nodeLaws() map[string]law {
	return map[string]law{
		"deep nodes": eachSpot(func(m api.Ram, s spot) bool { return len(s.around) < 64 }),
		"kinds":      eachSpot(func(m api.Ram, s spot) bool { return s.Kind >= api.RScan && s.Kind <= api.RMerge }),
		"Rel": eachSpot(func(m api.Ram, s spot) bool {
			return isSome(m, s.Rel) || !is(s, api.RScan, api.RHas, api.RNot, api.RPut, api.RClear, api.RSwap, api.RMerge)
		}),
		"Other": eachSpot(func(m api.Ram, s spot) bool {
			return !is(s, api.RSwap, api.RMerge) || isSome(m, s.Other) && isSome(m, s.Rel) && m.Widths[s.Rel] == m.Widths[s.Other]
		}),
		"From": eachSpot(func(m api.Ram, s spot) bool {
			last := s.From
			for _, reg := range settersOf(m.Widths, s.RNode) {
				if reg < 0 || reg >= m.Regs {
					return false
				}
				last = reg + 1
			}
			return !is(s, api.RScan, api.RLet, api.RMatch) || last >= 0 && last <= m.Regs
		}),
		"Other of a match": eachSpot(func(m api.Ram, s spot) bool { return s.Kind != api.RMatch || s.Other >= 0 && s.Other <= 8 }),
		"word of a match":  eachSpot(func(m api.Ram, s spot) bool { return s.Kind != api.RMatch || mayBeWord(s.S) }),
		"comparisons": eachSpot(func(m api.Ram, s spot) bool {
			return s.Kind != api.RCmp || slices.Contains([]string{"=", "!=", "<", "<=", ">", ">="}, s.Op)
		}),
		"matched": eachSpot(func(m api.Ram, s spot) bool { return s.Kind != api.RMatch || asks(m, s, s.N) }),
	}
}

// listLaws: those of a node's lists, and of what a Kind has not.
func listLaws() map[string]law {
	return map[string]law{
		"Rels": eachSpot(func(m api.Ram, s spot) bool {
			return s.Kind != api.RLoop || !slices.ContainsFunc(s.Rels, func(rel int) bool { return !isSome(m, rel) })
		}),
		"Cols": eachSpot(func(m api.Ram, s spot) bool {
			for i, k := range s.Keys {
				if s.Kind == api.RScan && (!isSome(m, s.Rel) || k.Col < 0 || k.Col >= m.Widths[s.Rel] || i > 0 && k.Col <= s.Keys[i-1].Col) {
					return false
				}
			}
			return true
		}),
		"Exprs": eachSpot(func(m api.Ram, s spot) bool {
			return !is(s, api.RHas, api.RNot, api.RPut) || isSome(m, s.Rel) && len(s.Exprs) == m.Widths[s.Rel]
		}),
		"Kids": eachSpot(func(m api.Ram, s spot) bool {
			return len(s.Kids) == 0 || !is(s, api.RPut, api.RClear, api.RSwap, api.RMerge)
		}),
		"needless": eachSpot(func(m api.Ram, s spot) bool {
			_, others := exprLists(s.RNode)
			return !slices.ContainsFunc(others, func(x api.RExpr) bool { return x.Kind != 0 || x.N != 0 || x.S != "" || len(x.Kids) > 0 }) && (len(s.Rels) == 0 || s.Kind == api.RLoop)
		}),
		"needless Keys": eachSpot(func(m api.Ram, s spot) bool { return s.Kind == api.RScan || len(s.Keys) == 0 }),
		"needless lists": eachSpot(func(m api.Ram, s spot) bool {
			return len(s.Exprs) == 0 || is(s, api.RHas, api.RNot, api.RPut)
		}),
	}
}

// exprLaws: those of expressions.
func exprLaws() map[string]law {
	return map[string]law{
		"deep exprs": eachExpr(func(m api.Ram, s spot, x api.RExpr, deep int) bool { return deep <= 32 }),
		"expr kinds": eachExpr(func(m api.Ram, s spot, x api.RExpr, deep int) bool {
			return x.Kind >= api.EVar && x.Kind <= api.ECon && x.Kind != api.EAny
		}),
		"words": eachExpr(func(m api.Ram, s spot, x api.RExpr, deep int) bool { return x.Kind != api.ECon || mayBeWord(x.S) }),
		"operators": eachExpr(func(m api.Ram, s spot, x api.RExpr, deep int) bool {
			return x.Kind != api.EOp || len(x.Kids) == 2 && slices.Contains([]string{"+", "-", "*", "/", "%"}, x.S)
		}),
		"asked for": eachExpr(func(m api.Ram, s spot, x api.RExpr, deep int) bool { return x.Kind != api.EVar || asks(m, s, x.N) }),
		"Kids of exprs": eachExpr(func(m api.Ram, s spot, x api.RExpr, deep int) bool {
			return len(x.Kids) == 0 || x.Kind != api.EVar && x.Kind != api.ENum && x.Kind != api.EText
		}),
	}
}

// broken: the names of the laws that a program breaks.
func broken(m api.Ram) []string {
	var names []string
	all := spots(m.Main, nil)
	for name, holds := range laws() {
		if !holds(m, all) {
			names = append(names, name)
		}
	}
	slices.Sort(names)
	return names
}

// machine does a program.
type machine struct {
	rels   [][][]api.Val
	regs   map[int]api.Val
	steps  int
	fuel   int
	faulty bool
}

func sameTuple(a, b []api.Val) bool { return slices.EqualFunc(a, b, term.Same) }

func (m *machine) hasTuple(rel int, t []api.Val) bool {
	return slices.ContainsFunc(m.rels[rel], func(u []api.Val) bool { return sameTuple(t, u) })
}

// come: the tuple comes into the relation.
func (m *machine) come(rel int, t []api.Val) api.Errno {
	if m.hasTuple(rel, t) {
		return api.OK
	}
	if len(m.rels[rel]) == api.MaxFacts {
		return api.ErrFull
	}
	m.rels[rel] = append(slices.Clone(m.rels[rel]), t)
	return api.OK
}

// sorted: a relation's tuples, rising.
func (m *machine) sorted(rel int) [][]api.Val {
	var list [][]api.Val
	for _, t := range m.rels[rel] {
		at := 0
		for at < len(list) && slices.CompareFunc(list[at], t, term.Order) < 0 {
			at++
		}
		list = slices.Insert(list, at, t)
	}
	return list
}

// doing: what a program comes to, by the chapter's words.
func doing(p api.Ram, in [][][]api.Val, fuel int) ([][][]api.Val, int, api.Errno) {
	if len(broken(p)) > 0 || len(in) != len(p.Widths) {
		return nil, 0, api.ErrArg
	}
	m := &machine{rels: make([][][]api.Val, len(in)), regs: map[int]api.Val{}, fuel: fuel}
	for rel, tuples := range in {
		if len(tuples) > api.MaxFacts {
			return nil, 0, api.ErrArg
		}
		for _, t := range tuples {
			if len(t) != p.Widths[rel] || slices.ContainsFunc(t, func(v api.Val) bool { return !term.Right(v) }) {
				return nil, 0, api.ErrArg
			}
			m.come(rel, t)
		}
	}
	e := m.do(p.Main)
	if e == api.OK && m.faulty {
		e = api.ErrFault
	}
	if e != api.OK {
		return nil, m.steps, e
	}
	var out [][][]api.Val
	for rel := range in {
		out = append(out, m.sorted(rel))
	}
	return out, m.steps, api.OK
}

func (m *machine) step() api.Errno {
	if m.steps+1 > m.fuel || m.steps+1 > 1<<17 {
		return api.ErrFuel
	}
	m.steps++
	return api.OK
}

func (m *machine) value(x api.RExpr) (api.Val, bool) {
	switch x.Kind {
	case api.EVar:
		return m.regs[x.N], true
	case api.ENum:
		return numOf(x.N), true
	case api.EText:
		return symOf(x.S), true
	}
	kids, there := m.valuesOf(x.Kids)
	if !there {
		return api.Val{}, false
	}
	if x.Kind == api.ECon {
		return conOf(x.S, kids...), term.Right(conOf(x.S, kids...))
	}
	n, e := num.Op(x.S, kids[0].N, kids[1].N)
	return numOf(n), kids[0].Kind == api.Num && kids[1].Kind == api.Num && e == api.OK
}

func (m *machine) valuesOf(list []api.RExpr) ([]api.Val, bool) {
	var all []api.Val
	for _, x := range list {
		v, there := m.value(x)
		if !there {
			return nil, false
		}
		all = append(all, v)
	}
	return all, true
}

func (m *machine) kids(n api.RNode) api.Errno {
	for _, kid := range n.Kids {
		if e := m.do(kid); e != api.OK {
			return e
		}
	}
	return api.OK
}

// do does a node.
func (m *machine) do(n api.RNode) api.Errno {
	if e := m.step(); e != api.OK {
		return e
	}
	has, _ := exprLists(n)
	values, there := m.valuesOf(has)
	if !there {
		m.faulty = true
		return api.OK
	}
	switch n.Kind {
	case api.RScan:
		return m.scan(n, values)
	case api.RHas, api.RNot:
		if m.hasTuple(n.Rel, values) != (n.Kind == api.RHas) {
			return api.OK
		}
	case api.RCmp:
		if !m.holds(n.Op, values[0], values[1]) {
			return api.OK
		}
	case api.RLet:
		m.regs[n.From] = values[0]
	case api.RMatch:
		v := m.regs[n.N]
		if v.Kind != api.Con || v.S != n.S || len(v.Args) != n.Other {
			return api.OK
		}
		for i, arg := range v.Args {
			m.regs[n.From+i] = arg
		}
	case api.RPut:
		return m.come(n.Rel, values)
	case api.RLoop:
		return m.loop(n)
	case api.RClear:
		m.rels[n.Rel] = nil
	case api.RSwap:
		m.rels[n.Rel], m.rels[n.Other] = m.rels[n.Other], m.rels[n.Rel]
	case api.RMerge:
		for _, t := range m.rels[n.Other] {
			if e := m.come(n.Rel, t); e != api.OK {
				return e
			}
		}
	}
	return m.kids(n)
}

func (m *machine) scan(n api.RNode, values []api.Val) api.Errno {
	for _, t := range m.sorted(n.Rel) {
		like := true
		for i, k := range n.Keys {
			like = like && term.Same(t[k.Col], values[i])
		}
		if !like {
			continue
		}
		if e := m.step(); e != api.OK {
			return e
		}
		for i, v := range t {
			m.regs[n.From+i] = v
		}
		if e := m.kids(n); e != api.OK {
			return e
		}
	}
	return api.OK
}

func (m *machine) holds(sign string, a, b api.Val) bool {
	if sign == "=" || sign == "!=" {
		return term.Same(a, b) == (sign == "=")
	}
	if a.Kind != api.Num || b.Kind != api.Num {
		m.faulty = true
		return false
	}
	holds, _ := num.Cmp(sign, a.N, b.N)
	return holds
}

func (m *machine) loop(n api.RNode) api.Errno {
	for {
		if e := m.step(); e != api.OK {
			return e
		}
		if e := m.kids(n); e != api.OK {
			return e
		}
		some := false
		for _, rel := range n.Rels {
			some = some || len(m.rels[rel]) > 0
		}
		if !some {
			return api.OK
		}
	}
}

// tightByWords makes a node tight.
func tightByWords(widths []int, n *api.RNode) {
	for i := range n.Kids {
		tightByWords(widths, &n.Kids[i])
	}
	for n.Kind == api.RScan && len(n.Kids) == 1 && n.Kids[0].Kind == api.RCmp {
		cmp := n.Kids[0]
		if k, there := keyByWords(widths, *n, cmp); there {
			n.Keys = append(slices.Clone(n.Keys), k)
			slices.SortFunc(n.Keys, func(a, b api.RKey) int { return a.Col - b.Col })
			n.Kids = cmp.Kids
			continue
		}
		if !outByWords(widths, *n, cmp) {
			return
		}
		scan := *n
		scan.Kids = cmp.Kids
		*n = cmp
		n.Kids = []api.RNode{scan}
		n = &n.Kids[0]
	}
}

// setBy: the registers that nodes in some Kids set.
func setBy(widths []int, kids []api.RNode) []int {
	var regs []int
	for _, kid := range kids {
		for _, s := range spots(kid, nil) {
			regs = append(regs, settersOf(widths, s.RNode)...)
		}
	}
	return regs
}

func isSide(x api.RExpr) bool { return slices.Contains([]int{api.EVar, api.ENum, api.EText}, x.Kind) }

func keyByWords(widths []int, scan, cmp api.RNode) (api.RKey, bool) {
	own := settersOf(widths, scan)
	set := setBy(widths, cmp.Kids)
	for _, sides := range [][2]api.RExpr{{cmp.L, cmp.R}, {cmp.R, cmp.L}} {
		x, y := sides[0], sides[1]
		col := slices.Index(own, x.N)
		if cmp.Op == "=" && x.Kind == api.EVar && col >= 0 &&
			!slices.ContainsFunc(scan.Keys, func(k api.RKey) bool { return k.Col == col }) &&
			isSide(y) && (y.Kind != api.EVar || !slices.Contains(own, y.N) && !slices.Contains(set, y.N)) {
			return key(col, y), true
		}
	}
	return api.RKey{}, false
}

func outByWords(widths []int, scan, cmp api.RNode) bool {
	regs := append(settersOf(widths, scan), setBy(widths, cmp.Kids)...)
	for _, x := range []api.RExpr{cmp.L, cmp.R} {
		if !isSide(x) || x.Kind == api.EVar && slices.Contains(regs, x.N) {
			return false
		}
	}
	return (cmp.Op == "=" || cmp.Op == "!=") && !slices.ContainsFunc(scan.Keys, func(k api.RKey) bool { return !isSide(k.X) })
}
