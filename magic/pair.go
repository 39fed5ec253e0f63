package magic

import "vestry/api"

// The letters of patterns.
const (
	isBound = 'b'
	isFree  = 'f'
)

// pair is a derived relation and a pattern.
type pair struct {
	rel     string
	pattern string
}

// answers is the name of the relation of what is found.
func (w pair) answers() string { return w.rel + ".a_" + w.pattern }

// asks is the name of the relation of what is asked for.
func (w pair) asks() string { return w.rel + ".m_" + w.pattern }

// at are those elements of a list that have a `b` in a pattern.
func at[T any](list []T, pattern string) []T {
	var some []T
	for i, x := range list {
		if pattern[i] == isBound {
			some = append(some, x)
		}
	}
	return some
}

// pair is the pair of an atom of a derived relation, where some variables are bound.
func (c *cone) pair(a api.Atom, b bound) pair {
	open := c.derived[a.Rel].open
	pattern := make([]byte, len(open))
	for i, x := range a.Args {
		pattern[i] = isFree
		if open[i] && b.knows(x) {
			pattern[i] = isBound
		}
	}
	return pair{a.Rel, string(pattern)}
}

// bound has the words of variables that are bound.
type bound map[string]struct{}

// knows tells whether an expression is a number, a text or a bound variable.
func (b bound) knows(x api.Expr) bool {
	_, there := b[x.S]
	return isValue(x) || x.Kind == api.EVar && there
}

// bind binds the variables of patterns. Those of operators are bound already.
func (b bound) bind(patterns ...api.Expr) {
	for _, x := range patterns {
		switch x.Kind {
		case api.EVar:
			b[x.S] = struct{}{}
		case api.ECon:
			b.bind(x.Kids...)
		}
	}
}

// pass binds the variables of a Lit that was gone through. Those within a comparison's constructors are bound already.
func (b bound) pass(l api.Lit) {
	if l.Kind == api.LAtom {
		b.bind(l.Atom.Args...)
	} else {
		b.bind(l.L, l.R)
	}
}
