package types

import "vestry/api"

// wrongName is the first fault of the Types by their names, and those of what they have.
func (c *catalog) wrongName() api.Fault {
	for i, t := range c.prog.Types {
		if t.Name == number || t.Name == symbol {
			return api.Fault{Why: api.ErrArg, At: t.At}
		}
		if c.types[t.Name] != firstOwn+i || c.ctorTwice(i) {
			return api.Fault{Why: api.ErrThere, At: t.At}
		}
	}
	return api.Fault{}
}

// ctorTwice tells whether a constructor of a Type is there already, or has two Fields of one name.
func (c *catalog) ctorTwice(owner int) bool {
	for k, ctor := range c.prog.Types[owner].Ctors {
		if c.ctors[ctor.Name] != (place{owner, k}) || twice(ctor.Fields) {
			return true
		}
	}
	return false
}

// twice tells whether two fields have one name.
func twice(fields []api.Field) bool {
	met := make(map[string]int, len(fields))
	for i, f := range fields {
		if _, there := met[f.Name]; there {
			return true
		}
		met[f.Name] = i
	}
	return false
}

// wrongType is the first fault of the Types by what they lead to.
func (c *catalog) wrongType() api.Fault {
	for i, t := range c.prog.Types {
		if t.Sub != "" && !c.there(t.Sub) || c.ctorOfNone(t.Ctors) {
			return api.Fault{Why: api.ErrNone, At: t.At}
		}
		if c.kinds[firstOwn+i].base == round {
			return api.Fault{Why: api.ErrRing, At: t.At}
		}
	}
	return api.Fault{}
}

// ctorOfNone tells whether a constructor has a Field of a type that is none.
func (c *catalog) ctorOfNone(ctors []api.Ctor) bool {
	for _, ctor := range ctors {
		if c.ofNone(ctor.Fields) {
			return true
		}
	}
	return false
}

// ofNone tells whether the type of one of the fields is none.
func (c *catalog) ofNone(fields []api.Field) bool {
	for _, f := range fields {
		if !c.there(f.Type) {
			return true
		}
	}
	return false
}

// wrongDecl is the first fault of the Decls.
func (c *catalog) wrongDecl() api.Fault {
	for i, d := range c.prog.Decls {
		if c.decls[d.Name] != i || twice(d.Cols) {
			return api.Fault{Why: api.ErrThere, At: d.At}
		}
		if c.ofNone(d.Cols) {
			return api.Fault{Why: api.ErrNone, At: d.At}
		}
	}
	return api.Fault{}
}

// wrongClause is the first fault of the Clauses.
func (c *catalog) wrongClause() api.Fault {
	for _, clause := range c.prog.Clauses {
		if _, fault := c.infer(clause); fault.Why != api.OK {
			return fault
		}
	}
	return api.Fault{}
}
