package pass

import (
	"slices"

	"vestry/api"
)

// trim trims a program.
func trim(p *api.Prog) bool {
	clauses, decls := len(p.Clauses), len(p.Decls)
	asked := askedFor(*p)
	p.Clauses = slices.DeleteFunc(p.Clauses, func(c api.Clause) bool {
		_, there := asked[c.Head.Rel]
		return !there
	})
	p.Decls = slices.DeleteFunc(p.Decls, func(d api.Decl) bool {
		_, there := asked[d.Name]
		return !there && !d.Input
	})
	return len(p.Clauses) < clauses || len(p.Decls) < decls
}

// askedFor has the outputs and all relations that one of them hangs on. Asking layer 13 pair by pair would go through the program for each.
func askedFor(p api.Prog) map[string]struct{} {
	bodies := make(map[string][][]api.Lit, len(p.Decls))
	for _, c := range p.Clauses {
		bodies[c.Head.Rel] = append(bodies[c.Head.Rel], c.Body)
	}
	asked := make(map[string]struct{}, len(p.Decls))
	var left []string
	ask := func(name string) {
		if _, there := asked[name]; !there {
			asked[name] = struct{}{}
			left = append(left, name)
		}
	}
	for _, d := range p.Decls {
		if d.Output {
			ask(d.Name)
		}
	}
	for len(left) > 0 {
		name := left[len(left)-1]
		left = left[:len(left)-1]
		for _, l := range slices.Concat(bodies[name]...) {
			if related(l) {
				ask(l.Atom.Rel)
			}
		}
	}
	return asked
}
