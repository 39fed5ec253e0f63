package comp

import (
	"iter"
	"slices"
	"strings"

	"vestry/api"
	"vestry/copies"
)

// maker makes instances, one behind the other, into the flat program.
type maker struct {
	shelf shelf
	flat  api.Prog
	made  int
}

// place is where an instance is made: its prefix, and the components in which it lies.
type place struct {
	prefix string
	way    []string
}

// inner is the place of an instance within this one.
func (at place) inner(inst api.Init) place {
	return place{under(at.prefix, inst.Name), append(slices.Clone(at.way), inst.Comp)}
}

// under is a prefix within a prefix. Past MaxName bytes it only counts that no name has room behind it, so the rest is cut off and prefixes do not grow without an end.
func under(prefix, name string) string {
	s := prefix + name[:min(len(name), api.MaxName)] + "."
	return s[:min(len(s), api.MaxName+1)]
}

// instances makes those of all Inits of a program, each with those within it.
func (m *maker) instances(p body) api.Fault {
	var within func(b body, at place) api.Fault
	within = func(b body, at place) api.Fault {
		for i, inst := range b.Inits {
			if b.first[inst.Name] < i {
				return api.Fault{Why: api.ErrThere, At: inst.At}
			}
			whole, e := m.open(inst, at.way)
			if e != api.OK {
				return api.Fault{Why: e, At: inst.At}
			}
			inner := at.inner(inst)
			if fault := m.put(whole, inner.prefix); fault.Why != api.OK {
				return fault
			}
			if m.tooMany() {
				return api.Fault{Why: api.ErrMany, At: inst.At}
			}
			if fault := within(whole, inner); fault.Why != api.OK {
				return fault
			}
		}
		return api.Fault{}
	}
	return within(p, place{})
}

// open is the whole body of an Init's component, if there may be an instance of it.
func (m *maker) open(inst api.Init, way []string) (body, api.Errno) {
	bodies, e := m.shelf.bodies(inst.Comp)
	if e != api.OK {
		return body{}, e
	}
	if slices.Contains(way, inst.Comp) {
		return body{}, api.ErrRing
	}
	if m.made == api.MaxRules {
		return body{}, api.ErrMany
	}
	return newBody(joined(bodies)), api.OK
}

// tooMany tells whether there are too many Decls and Clauses. It is asked behind put, since an instance's names that are too long are told first.
func (m *maker) tooMany() bool {
	return len(m.flat.Decls)+len(m.flat.Clauses) > api.MaxRules
}

// put makes the Decls and Clauses of an instance.
func (m *maker) put(whole body, prefix string) api.Fault {
	m.made++
	for _, d := range whole.Decls {
		if len(prefix)+len(d.Name) > api.MaxName {
			return api.Fault{Why: api.ErrLong, At: d.At}
		}
		d = copies.Decl(d)
		d.Name = prefix + d.Name
		m.flat.Decls = append(m.flat.Decls, d)
	}
	for _, c := range whole.Clauses {
		c = copies.Clause(c)
		for atom := range atoms(&c) {
			ahead := ""
			if whole.has(atom.Rel) {
				ahead = prefix
			}
			if len(ahead)+len(atom.Rel) > api.MaxName {
				return api.Fault{Why: api.ErrLong, At: atom.At}
			}
			atom.Rel = ahead + atom.Rel
		}
		m.flat.Clauses = append(m.flat.Clauses, c)
	}
	return api.Fault{}
}

// body is a program, or a whole body, and of each name that it has the number of the first Init of that name, or -1 of a Decl's, which are all ahead of the Inits.
type body struct {
	api.Prog
	first map[string]int
}

func newBody(p api.Prog) body {
	first := make(map[string]int, len(p.Decls)+len(p.Inits))
	for _, d := range p.Decls {
		first[d.Name] = -1
	}
	for i, inst := range p.Inits {
		if _, there := first[inst.Name]; !there {
			first[inst.Name] = i
		}
	}
	return body{p, first}
}

// has tells whether a name is one that the body has, by its first word.
func (b body) has(name string) bool {
	word, _, _ := strings.Cut(name, ".")
	_, there := b.first[word]
	return there
}

// atoms are those of a clause, the head first; a comparison has none.
func atoms(c *api.Clause) iter.Seq[*api.Atom] {
	return func(yield func(*api.Atom) bool) {
		if !yield(&c.Head) {
			return
		}
		for i := range c.Body {
			l := &c.Body[i]
			if (l.Kind == api.LAtom || l.Kind == api.LNot) && !yield(&l.Atom) {
				return
			}
		}
	}
}
