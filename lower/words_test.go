package lower

import (
	"maps"
	"slices"

	"vestry/api"
	"vestry/ram"
	"vestry/rules"
)

// The document's own lowering, by its words: the nodes of a Body are made from the outermost one to the innermost one, with what is known at each place handed on.

// known: where a clause's variables are, and how many registers there are so far.
type known struct {
	at   map[string]int
	regs int
}

func (k known) with(name string, register int) known {
	k.at = maps.Clone(k.at)
	k.at[name] = register
	return k
}

func (k known) more(registers int) known {
	k.regs += registers
	return k
}

func (k known) has(x api.Expr) bool {
	_, there := k.at[x.S]
	return there
}

func (k known) expr(x api.Expr) api.RExpr {
	if x.Kind == api.EVar {
		return api.RExpr{Kind: api.EVar, N: k.at[x.S]}
	}
	y := api.RExpr{Kind: x.Kind}
	if x.Kind == api.ENum {
		y.N = x.N
	} else {
		y.S = x.S
	}
	if x.Kind == api.EOp || x.Kind == api.ECon {
		y.Kids = k.exprs(x.Kids)
	}
	return y
}

func (k known) exprs(list []api.Expr) []api.RExpr {
	var all []api.RExpr
	for _, x := range list {
		all = append(all, k.expr(x))
	}
	return all
}

// todo: what a clause has still to ask for.
type todo struct {
	pattern  *api.Expr // of a register, or
	register int
	lit      *api.Lit // a Lit, an LAtom of that relation
	rel      int
}

// patterns: those of registers from that one on, ahead of what comes behind.
func patterns(list []api.Expr, from int, behind []todo) []todo {
	var all []todo
	for i := range list {
		all = append(all, todo{pattern: &list[i], register: from + i})
	}
	return append(all, behind...)
}

// writer: a program's relations, by number, and the most registers so far.
type writer struct {
	numbers map[string]int
	widths  []int
	regs    int
}

// nodes: what is to do, one within the other; innermost what last makes.
func (w *writer) nodes(list []todo, k known, last func(k known) api.RNode) api.RNode {
	w.regs = max(w.regs, k.regs)
	if len(list) == 0 {
		return last(k)
	}
	first, behind := list[0], list[1:]
	var n api.RNode
	switch {
	case first.pattern != nil && (first.pattern.Kind == api.EAny || first.pattern.Kind == api.EVar && !k.has(*first.pattern)):
		return w.nodes(behind, k.with(first.pattern.S, first.register), last)
	case first.pattern != nil && first.pattern.Kind == api.ECon:
		x := *first.pattern
		n = api.RNode{Kind: api.RMatch, N: first.register, S: x.S, Other: len(x.Kids), From: k.regs}
		behind, k = patterns(x.Kids, k.regs, behind), k.more(len(x.Kids))
	case first.pattern != nil:
		n = api.RNode{Kind: api.RCmp, Op: "=", L: api.RExpr{Kind: api.EVar, N: first.register}, R: k.expr(*first.pattern)}
	case first.lit.Kind == api.LAtom:
		n = api.RNode{Kind: api.RScan, Rel: first.rel, From: k.regs}
		args := first.lit.Atom.Args
		behind, k = patterns(args, k.regs, behind), k.more(len(args))
	case first.lit.Kind == api.LNot:
		n = api.RNode{Kind: api.RNot, Rel: first.rel, Exprs: k.exprs(first.lit.Atom.Args)}
	default:
		n, k = comparison(*first.lit, k)
	}
	n.Kids = []api.RNode{w.nodes(behind, k, last)}
	return n
}

// comparison: the node of an LCmp, and what is known within it.
func comparison(l api.Lit, k known) (api.RNode, known) {
	for _, side := range [][2]api.Expr{{l.L, l.R}, {l.R, l.L}} {
		if l.Op == "=" && side[0].Kind == api.EVar && !k.has(side[0]) {
			return api.RNode{Kind: api.RLet, From: k.regs, L: k.expr(side[1])}, k.with(side[0].S, k.regs).more(1)
		}
	}
	return api.RNode{Kind: api.RCmp, Op: l.Op, L: k.expr(l.L), R: k.expr(l.R)}, k
}

// clause: the nodes of a clause, one LAtom of which may have another relation than its own.
func (w *writer) clause(c api.Clause, other, rel int, last func(k known) api.RNode) api.RNode {
	var list []todo
	for i := range c.Body {
		list = append(list, todo{lit: &c.Body[i], rel: w.numbers[c.Body[i].Atom.Rel]})
		if i == other {
			list[i].rel = rel
		}
	}
	return w.nodes(list, known{at: map[string]int{}}, last)
}

func (w *writer) relation(width int) int {
	w.widths = append(w.widths, width)
	return len(w.widths) - 1
}

// stratum: the nodes of a stratum.
func (w *writer) stratum(p api.Prog, names []string) []api.RNode {
	var all []api.RNode
	var recursive []api.Clause
	for _, c := range p.Clauses {
		switch head := w.numbers[c.Head.Rel]; {
		case !slices.Contains(names, c.Head.Rel):
		case slices.ContainsFunc(c.Body, func(l api.Lit) bool { return l.Kind == api.LAtom && slices.Contains(names, l.Atom.Rel) }):
			recursive = append(recursive, c)
		default:
			all = append(all, w.clause(c, -1, 0, func(k known) api.RNode {
				return api.RNode{Kind: api.RPut, Rel: head, Exprs: k.exprs(c.Head.Args)}
			}))
		}
	}
	if len(recursive) == 0 {
		return all
	}
	d, n := map[string]int{}, map[string]int{}
	loop := api.RNode{Kind: api.RLoop}
	for _, name := range names {
		r := w.numbers[name]
		d[name], n[name] = w.relation(w.widths[r]), w.relation(w.widths[r])
		all = append(all, api.RNode{Kind: api.RMerge, Rel: d[name], Other: r})
		loop.Rels = append(loop.Rels, d[name])
	}
	for _, c := range recursive {
		for i, l := range c.Body {
			if l.Kind != api.LAtom || !slices.Contains(names, l.Atom.Rel) {
				continue
			}
			loop.Kids = append(loop.Kids, w.clause(c, i, d[l.Atom.Rel], func(k known) api.RNode {
				put := api.RNode{Kind: api.RPut, Rel: n[c.Head.Rel], Exprs: k.exprs(c.Head.Args)}
				return api.RNode{Kind: api.RNot, Rel: w.numbers[c.Head.Rel], Exprs: k.exprs(c.Head.Args), Kids: []api.RNode{put}}
			}))
		}
	}
	for _, name := range names {
		loop.Kids = append(loop.Kids,
			api.RNode{Kind: api.RClear, Rel: d[name]},
			api.RNode{Kind: api.RSwap, Rel: d[name], Other: n[name]},
			api.RNode{Kind: api.RMerge, Rel: w.numbers[name], Other: d[name]})
	}
	return append(all, loop)
}

// ownWay: a program that is taken, lowered in the document's way.
func ownWay(p api.Prog) api.Ram {
	w := &writer{numbers: map[string]int{}}
	for i, d := range p.Decls {
		w.numbers[d.Name] = i
		w.relation(len(d.Cols))
	}
	main := api.RNode{Kind: api.RSeq}
	strata, _ := rules.Strata(p)
	for _, names := range strata {
		main.Kids = append(main.Kids, w.stratum(p, names)...)
	}
	return api.Ram{Widths: w.widths, Regs: w.regs, Main: main}
}

// What a program that is not small lacks.
const (
	isNotTaken  = "not taken"
	isOfMany    = "Decls"
	isLargeLoop = "relations"
	isLargeElse = "the rest"
)

// lacks: why a program is not small, if it is not.
func lacks(p api.Prog) string {
	if rules.Check(p).Why != api.OK {
		return isNotTaken
	}
	if len(p.Decls) > 64 {
		return isOfMany
	}
	own := ownWay(p)
	switch {
	case ram.Check(own):
		return ""
	case len(own.Widths) > 128:
		return isLargeLoop
	}
	return isLargeElse
}
