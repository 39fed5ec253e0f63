package ram

import (
	"slices"

	"vestry/api"
	"vestry/copies"
	"vestry/term"
)

// run is what a program does.
type run struct {
	// The lists of tuples rise, and nobody writes into them: a scan goes over those that it began with.
	rels   [][][]api.Val
	regs   []api.Val
	fuel   int
	steps  int
	faulty bool // whether a fault was told
}

// mayCome tells whether tuples of a width may be handed in.
func mayCome(width int, tuples [][]api.Val) bool {
	return len(tuples) <= api.MaxFacts && !slices.ContainsFunc(tuples, func(t []api.Val) bool {
		return len(t) != width || slices.ContainsFunc(t, func(v api.Val) bool { return !term.Right(v) })
	})
}

// newRun is a run that has not begun.
func newRun(regs int, in [][][]api.Val, fuel int) *run {
	return &run{
		rels: copies.List(in, rising),
		regs: make([]api.Val, regs),
		fuel: min(fuel, api.MaxFuel),
	}
}

// lean is a node in which loops have each relation once: they may have one very often, and ask for all of them in each round.
func lean(n api.RNode) api.RNode {
	n.Rels = slices.Compact(slices.Sorted(slices.Values(n.Rels)))
	n.Kids = copies.List(n.Kids, lean)
	return n
}

// tuples are copies of the relations' tuples.
func (r *run) tuples() [][][]api.Val {
	return copies.List(r.rels, func(tuples [][]api.Val) [][]api.Val {
		return copies.List(tuples, func(t []api.Val) []api.Val { return copies.List(t, copies.Val) })
	})
}

// all does a program's outermost node.
func (r *run) all(main api.RNode) (e api.Errno) {
	defer func() {
		carried := recover()
		if carried == nil {
			return
		}
		why, ours := carried.(api.Errno)
		if !ours {
			panic(carried)
		}
		e = why
	}()
	r.node(main)
	if r.faulty {
		return api.ErrFault
	}
	return api.OK
}

// step counts a step, or breaks the run off.
func (r *run) step() {
	if r.steps >= r.fuel {
		panic(api.ErrFuel)
	}
	r.steps++
}

func (r *run) nodes(list []api.RNode) {
	for _, n := range list {
		r.node(n)
	}
}

func (r *run) node(n api.RNode) {
	r.step()
	switch n.Kind {
	case api.RScan:
		r.scan(n)
	case api.RHas, api.RNot:
		r.ask(n)
	case api.RCmp:
		r.compare(n)
	case api.RLet:
		r.let(n)
	case api.RMatch:
		r.match(n)
	case api.RPut:
		r.put(n)
	case api.RSeq:
		r.nodes(n.Kids)
	case api.RLoop:
		r.loop(n)
	case api.RClear:
		r.rels[n.Rel] = nil
	case api.RSwap:
		r.rels[n.Rel], r.rels[n.Other] = r.rels[n.Other], r.rels[n.Rel]
	case api.RMerge:
		r.fill(n.Rel, merged(r.rels[n.Rel], r.rels[n.Other]))
	}
}

func (r *run) scan(n api.RNode) {
	keys, there := r.asked(keyExprs(n.Keys)...)
	if !there {
		return
	}
	for _, t := range r.rels[n.Rel] {
		if isLike(t, n.Keys, keys) {
			r.step()
			copy(r.regs[n.From:], t)
			r.nodes(n.Kids)
		}
	}
}

func (r *run) ask(n api.RNode) {
	t, there := r.asked(n.Exprs...)
	if !there {
		return
	}
	if _, has := place(r.rels[n.Rel], t); has == (n.Kind == api.RHas) {
		r.nodes(n.Kids)
	}
}

func (r *run) compare(n api.RNode) {
	sides, there := r.asked(n.L, n.R)
	if !there {
		return
	}
	holds, there := compare(n.Op, sides[0], sides[1])
	if !there {
		r.faulty = true
	}
	if holds {
		r.nodes(n.Kids)
	}
}

func (r *run) let(n api.RNode) {
	if values, there := r.asked(n.L); there {
		r.regs[n.From] = values[0]
		r.nodes(n.Kids)
	}
}

func (r *run) match(n api.RNode) {
	v := r.regs[n.N]
	if v.Kind == api.Con && v.S == n.S && len(v.Args) == n.Other {
		copy(r.regs[n.From:], v.Args)
		r.nodes(n.Kids)
	}
}

func (r *run) put(n api.RNode) {
	t, there := r.asked(n.Exprs...)
	if !there {
		return
	}
	tuples := r.rels[n.Rel]
	if i, has := place(tuples, t); !has {
		r.fill(n.Rel, slices.Concat(tuples[:i], [][]api.Val{t}, tuples[i:]))
	}
}

func (r *run) loop(n api.RNode) {
	for {
		r.step()
		r.nodes(n.Kids)
		if !slices.ContainsFunc(n.Rels, func(rel int) bool { return len(r.rels[rel]) > 0 }) {
			return
		}
	}
}

// fill gives a relation rising tuples, if there is room for them.
func (r *run) fill(rel int, tuples [][]api.Val) {
	if len(tuples) > api.MaxFacts {
		panic(api.ErrFull)
	}
	r.rels[rel] = tuples
}
