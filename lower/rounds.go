package lower

import "vestry/api"

// rounds lowers the recursive clauses of a stratum: a round finds the instances that have a fact of the round before.
func (m *maker) rounds(s stratum, clauses []api.Clause) []api.RNode {
	m.split(s)
	var nodes []api.RNode
	loop := api.RNode{Kind: api.RLoop, Kids: m.turns(s, clauses)}
	for _, rel := range s {
		nodes = append(nodes, m.pair(api.RMerge, part{rel, latest}, part{rel, whole}))
		loop.Rels = append(loop.Rels, m.numbers[part{rel, latest}])
		loop.Kids = append(loop.Kids, m.endRound(rel)...)
	}
	return append(nodes, loop)
}

// split makes two relations more for each one of a stratum.
func (m *maker) split(s stratum) {
	for _, rel := range s {
		width := m.widths[m.numbers[part{rel, whole}]]
		m.add(part{rel, latest}, width)
		m.add(part{rel, coming}, width)
	}
}

// turns lowers clauses, each as often as it has LAtoms of the stratum.
func (m *maker) turns(s stratum, clauses []api.Clause) []api.RNode {
	var nodes []api.RNode
	for _, c := range clauses {
		for i, l := range c.Body {
			if s.feeds(l) {
				nodes = append(nodes, m.turn(c, i))
			}
		}
	}
	return nodes
}

// endRound ends a round for a relation.
func (m *maker) endRound(rel string) []api.RNode {
	return []api.RNode{
		{Kind: api.RClear, Rel: m.numbers[part{rel, latest}]},
		m.pair(api.RSwap, part{rel, latest}, part{rel, coming}),
		m.pair(api.RMerge, part{rel, whole}, part{rel, latest}),
	}
}

// pair is a node of two relations.
func (m *maker) pair(kind int, rel, other part) api.RNode {
	return api.RNode{Kind: kind, Rel: m.numbers[rel], Other: m.numbers[other]}
}
