package types

import "vestry/api"

// The types that every program has.
const (
	number = "number"
	symbol = "symbol"
)

// The numbers of types: of what is none, of those that every program has, and of the first of its own Types; the others follow in order.
const (
	none = iota
	ofNumber
	ofSymbol
	firstOwn
)

// What stands for the number of a base that is not known yet, or that there is none of, as the Subs lead round.
const (
	unsettled = -1 - iota
	round
)

// kind is a type by numbers. What has no Sub is its own base, at which rows of Subs end.
type kind struct {
	name string
	sub  int
	base int
}

// place is where a constructor is: in which Type, as which of its Ctors.
type place struct {
	owner int
	ctor  int
}

// catalog finds a program's types, relations and constructors by their names: of several of one name the first.
type catalog struct {
	prog  api.Prog
	kinds []kind
	types map[string]int
	decls map[string]int
	ctors map[string]place
}

func newCatalog(p api.Prog) *catalog {
	c := &catalog{
		prog:  p,
		types: map[string]int{number: ofNumber, symbol: ofSymbol},
		decls: make(map[string]int, len(p.Decls)),
		ctors: make(map[string]place, len(p.Types)),
	}
	for i, t := range p.Types {
		addFirst(c.types, t.Name, firstOwn+i)
		for k, ctor := range t.Ctors {
			addFirst(c.ctors, ctor.Name, place{i, k})
		}
	}
	for i, d := range p.Decls {
		addFirst(c.decls, d.Name, i)
	}
	c.addKinds()
	return c
}

// addFirst puts a thing under a name that has none yet.
func addFirst[T any](things map[string]T, name string, thing T) {
	if _, there := things[name]; !there {
		things[name] = thing
	}
}

// addKinds settles the Subs and the bases of all types once, so that rows of Subs are not followed again for each type in them.
func (c *catalog) addKinds() {
	c.kinds = []kind{
		none:     {base: none},
		ofNumber: {name: number, base: ofNumber},
		ofSymbol: {name: symbol, base: ofSymbol},
	}
	for i, t := range c.prog.Types {
		k := kind{name: t.Name, sub: c.types[t.Sub], base: unsettled}
		if t.Sub == "" {
			k.base = firstOwn + i
		}
		c.kinds = append(c.kinds, k)
	}
	for i := range c.kinds {
		c.settle(i)
	}
}

// settle finds the number of a type's base.
func (c *catalog) settle(i int) int {
	k := &c.kinds[i]
	if k.base == unsettled {
		k.base = round // which stays, if the row of Subs comes back here
		k.base = c.settle(k.sub)
	}
	return k.base
}

// there tells whether there is such a type.
func (c *catalog) there(t string) bool { return c.types[t] != none }

// base is a type's base, if it has one.
func (c *catalog) base(t string) (string, bool) {
	base := c.kinds[c.types[t]].base
	if base == none || base == round {
		return "", false
	}
	return c.kinds[base].name, true
}

// below tells whether a type is below another one.
func (c *catalog) below(a, b string) bool {
	at, to := c.types[a], c.types[b]
	base := c.kinds[at].base
	if base == none || base == round {
		return false
	}
	for at != to && at != base {
		at = c.kinds[at].sub
	}
	return at == to
}

// decl is the relation of a name, if there is one.
func (c *catalog) decl(name string) (api.Decl, bool) {
	i, there := c.decls[name]
	if !there {
		return api.Decl{}, false
	}
	return c.prog.Decls[i], true
}

// ctor is the constructor of a name, if there is one, and the name of the type that has it.
func (c *catalog) ctor(name string) (api.Ctor, string, bool) {
	at, there := c.ctors[name]
	if !there {
		return api.Ctor{}, "", false
	}
	owner := c.prog.Types[at.owner]
	return owner.Ctors[at.ctor], owner.Name, true
}
