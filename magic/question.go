package magic

import (
	"slices"

	"vestry/api"
)

// declared tells whether a relation with as many columns as an atom has Args has its name.
func declared(decls []api.Decl, q api.Atom) bool {
	return slices.ContainsFunc(decls, func(d api.Decl) bool {
		return d.Name == q.Rel && len(d.Cols) == len(q.Args)
	})
}

// asks tells whether expressions may be a question's.
func asks(args []api.Expr) bool {
	met := map[string]int{}
	for i, x := range args {
		switch x.Kind {
		case api.ENum, api.EText, api.EAny:
		case api.EVar:
			if _, there := met[x.S]; there {
				return false
			}
			met[x.S] = i
		default:
			return false
		}
	}
	return true
}

// isValue tells whether an expression is a number or a text.
func isValue(x api.Expr) bool { return x.Kind == api.ENum || x.Kind == api.EText }

// agrees tells whether values are as many as a question's Args, and those that it asks for.
func agrees(args []api.Expr, row []api.Val) bool {
	return slices.EqualFunc(args, row, func(x api.Expr, v api.Val) bool {
		return !isValue(x) || stands(x, v)
	})
}

// stands tells whether a number or a text stands for a value. What has fields that its kind has not is no value.
func stands(x api.Expr, v api.Val) bool {
	switch {
	case len(v.Args) > 0:
		return false
	case x.Kind == api.ENum:
		return v.Kind == api.Num && v.N == x.N && v.S == ""
	}
	return v.Kind == api.Sym && v.S == x.S && v.N == 0
}
