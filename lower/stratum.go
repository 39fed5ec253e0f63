package lower

import (
	"slices"

	"vestry/api"
)

// stratum has the names of its relations.
type stratum []string

func (s stratum) has(name string) bool { return slices.Contains(s, name) }

// own are the clauses of a stratum.
func (s stratum) own(clauses []api.Clause) []api.Clause {
	var own []api.Clause
	for _, c := range clauses {
		if s.has(c.Head.Rel) {
			own = append(own, c)
		}
	}
	return own
}

// feeds tells whether a Lit of a stratum's clause is an LAtom of the stratum: a clause that has one is recursive.
func (s stratum) feeds(l api.Lit) bool { return l.Kind == api.LAtom && s.has(l.Atom.Rel) }
