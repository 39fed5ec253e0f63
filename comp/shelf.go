package comp

import (
	"slices"

	"vestry/api"
)

// shelf finds components by their names: of several of one name the first.
type shelf struct {
	comps []api.Comp
	first map[string]int
}

func newShelf(comps []api.Comp) shelf {
	first := make(map[string]int, len(comps))
	for i, c := range comps {
		if _, there := first[c.Name]; !there {
			first[c.Name] = i
		}
	}
	return shelf{comps, first}
}

// bodies are those that a component's whole body is made of, in order. They are counted as they are met, so that Bases that double again and again come to an end.
func (s shelf) bodies(name string) ([]api.Prog, api.Errno) {
	var all []api.Prog
	var way []int
	met, items := 0, 0
	var follow func(name string) api.Errno
	follow = func(name string) api.Errno {
		at, there := s.first[name]
		if !there {
			return api.ErrNone
		}
		if slices.Contains(way, at) {
			return api.ErrRing
		}
		if met++; met > api.MaxRules {
			return api.ErrMany
		}
		way = append(way, at)
		for _, base := range s.comps[at].Bases {
			if e := follow(base); e != api.OK {
				return e
			}
		}
		way = way[:len(way)-1]
		all = append(all, s.comps[at].Body)
		if items += itemsOf(s.comps[at].Body); items > api.MaxRules {
			return api.ErrMany
		}
		return api.OK
	}
	if e := follow(name); e != api.OK {
		return nil, e
	}
	return all, api.OK
}

func itemsOf(p api.Prog) int {
	return len(p.Types) + len(p.Decls) + len(p.Comps) + len(p.Inits) + len(p.Clauses)
}

// joined has the items of all bodies, kind by kind; what the items hold is still the bodies' own.
func joined(bodies []api.Prog) api.Prog {
	var p api.Prog
	for _, b := range bodies {
		p.Types = append(p.Types, b.Types...)
		p.Decls = append(p.Decls, b.Decls...)
		p.Comps = append(p.Comps, b.Comps...)
		p.Inits = append(p.Inits, b.Inits...)
		p.Clauses = append(p.Clauses, b.Clauses...)
	}
	return p
}
