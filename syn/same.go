package syn

import (
	"slices"

	"vestry/api"
)

func sameTypes(a, b api.TypeDecl) bool {
	return a.Name == b.Name && a.Sub == b.Sub && slices.EqualFunc(a.Ctors, b.Ctors, sameCtors)
}

func sameCtors(a, b api.Ctor) bool {
	return a.Name == b.Name && slices.Equal(a.Fields, b.Fields)
}

func sameDecls(a, b api.Decl) bool {
	return a.Name == b.Name && slices.Equal(a.Cols, b.Cols) && a.Input == b.Input && a.Output == b.Output
}

func sameComps(a, b api.Comp) bool {
	return a.Name == b.Name && slices.Equal(a.Bases, b.Bases) && Same(a.Body, b.Body)
}

func sameInits(a, b api.Init) bool {
	return a.Name == b.Name && a.Comp == b.Comp
}

func sameClauses(a, b api.Clause) bool {
	return sameAtoms(a.Head, b.Head) && slices.EqualFunc(a.Body, b.Body, sameLits)
}

func sameAtoms(a, b api.Atom) bool {
	return a.Rel == b.Rel && slices.EqualFunc(a.Args, b.Args, sameExprs)
}

// sameLits holds all parts against each other, those too that a Lit of this Kind does not need.
func sameLits(a, b api.Lit) bool {
	return a.Kind == b.Kind && sameAtoms(a.Atom, b.Atom) && a.Op == b.Op && sameExprs(a.L, b.L) && sameExprs(a.R, b.R)
}

func sameExprs(a, b api.Expr) bool {
	return a.Kind == b.Kind && a.N == b.N && a.S == b.S && slices.EqualFunc(a.Kids, b.Kids, sameExprs)
}
