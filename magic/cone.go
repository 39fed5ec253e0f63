package magic

import (
	"slices"

	"vestry/api"
)

// cone has a relation and those that it hangs on.
type cone struct {
	given   []api.Decl // those that are not derived, in order
	derived map[string]derived
}

// derived is a relation with the Clauses that have it in their heads.
type derived struct {
	decl    api.Decl
	clauses []api.Clause
	open    []bool // of each column
}

// newCone is the cone of a relation of a program that is taken.
func newCone(p api.Prog, rel string) *cone {
	heads := make(map[string][]api.Clause, len(p.Decls))
	for _, c := range p.Clauses {
		heads[c.Head.Rel] = append(heads[c.Head.Rel], c)
	}
	met := reached(heads, rel)
	c := &cone{derived: make(map[string]derived, len(met))}
	for _, d := range p.Decls {
		if _, there := met[d.Name]; !there {
			continue
		}
		if clauses := heads[d.Name]; len(clauses) > 0 {
			c.derived[d.Name] = derived{d, clauses, openColumns(d, clauses)}
		} else {
			d.Output = false
			c.given = append(c.given, d)
		}
	}
	return c
}

// reached has a relation and those that it hangs on. Asking layer 13 pair by pair would go through the program for each.
func reached(heads map[string][]api.Clause, rel string) map[string]int {
	met := map[string]int{rel: 0}
	left := []string{rel}
	for len(left) > 0 {
		name := left[len(left)-1]
		left = left[:len(left)-1]
		for _, c := range heads[name] {
			for _, l := range c.Body {
				if _, there := met[l.Atom.Rel]; !there && l.Kind != api.LCmp {
					met[l.Atom.Rel] = len(met)
					left = append(left, l.Atom.Rel)
				}
			}
		}
	}
	return met
}

// openColumns tells of each column of a relation whether it is open.
func openColumns(d api.Decl, clauses []api.Clause) []bool {
	open := make([]bool, len(d.Cols))
	for i := range open {
		open[i] = !slices.ContainsFunc(clauses, func(c api.Clause) bool {
			x := c.Head.Args[i]
			return x.Kind != api.EVar && !isValue(x)
		})
	}
	return open
}

// turns tells whether a question of the cone's first relation can be turned.
func (c *cone) turns(rel string) bool {
	if _, there := c.derived[rel]; !there {
		return false
	}
	for _, d := range c.derived {
		if d.decl.Input || slices.ContainsFunc(d.clauses, negates) {
			return false
		}
	}
	return true
}

// negates tells whether a Clause has an LNot.
func negates(c api.Clause) bool {
	return slices.ContainsFunc(c.Body, func(l api.Lit) bool { return l.Kind == api.LNot })
}
