package lower

import (
	"slices"

	"vestry/api"
)

// What a relation of a RAM program has of the facts of one of the program's.
const (
	whole  = iota // all so far
	latest        // those that came in the round before
	coming        // those that come in this round
)

// part is a relation of a RAM program.
type part struct {
	rel string
	has int
}

// maker makes a RAM program.
type maker struct {
	numbers map[part]int
	widths  []int
	regs    int
	left    int // for how many nodes and expressions of clauses there is room, at most
}

// newMaker has a program's own relations alone.
func newMaker(decls []api.Decl) *maker {
	m := &maker{numbers: map[part]int{}, left: api.MaxCode}
	for _, d := range decls {
		m.add(part{d.Name, whole}, len(d.Cols))
	}
	return m
}

// add makes a relation.
func (m *maker) add(r part, width int) {
	m.numbers[r] = len(m.widths)
	m.widths = append(m.widths, width)
}

// program lowers a program, stratum by stratum.
func (m *maker) program(strata [][]string, clauses []api.Clause) api.Ram {
	main := api.RNode{Kind: api.RSeq}
	for _, names := range strata {
		s := stratum(names)
		main.Kids = append(main.Kids, m.stratum(s, s.own(clauses))...)
	}
	return api.Ram{Widths: m.widths, Regs: m.regs, Main: main}
}

// stratum lowers a stratum's clauses.
func (m *maker) stratum(s stratum, clauses []api.Clause) []api.RNode {
	var nodes []api.RNode
	var recursive []api.Clause
	for _, c := range clauses {
		if slices.ContainsFunc(c.Body, s.feeds) {
			recursive = append(recursive, c)
		} else {
			nodes = append(nodes, m.once(c))
		}
	}
	if len(recursive) > 0 {
		nodes = append(nodes, m.rounds(s, recursive)...)
	}
	return nodes
}
