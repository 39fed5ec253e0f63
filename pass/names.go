package pass

import "vestry/api"

// names finds the parts of a program that is taken, by their numbers.
type names struct {
	prog  *api.Prog
	decls map[string]int
	types map[string]int
	ctors map[string]int // of each constructor the type that has it
}

func newNames(p *api.Prog) *names {
	n := &names{
		prog:  p,
		decls: make(map[string]int, len(p.Decls)),
		types: make(map[string]int, len(p.Types)),
		ctors: make(map[string]int, len(p.Types)),
	}
	for i, d := range p.Decls {
		n.decls[d.Name] = i
	}
	for i, t := range p.Types {
		n.types[t.Name] = i
		for _, c := range t.Ctors {
			n.ctors[c.Name] = i
		}
	}
	return n
}
