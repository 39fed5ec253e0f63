package rules

import "vestry/api"

// Where a variable that has a type got it from: facts and literals, or what is made. A variable without a type has neither.
const (
	plain = 1 + iota
	made
)

// origins has of a clause's variables where their types are from.
type origins map[string]int

// newOrigins goes through a Body whose types are right, as layer 12 does. Nots and other comparisons give no variable its type.
func newOrigins(body []api.Lit) origins {
	o := origins{}
	for _, l := range body {
		switch {
		case l.Kind == api.LAtom:
			o.match(l.Atom.Args)
		case l.Kind == api.LCmp && l.Op == "=":
			o.give(l.L, l.R)
		}
	}
	return o
}

// match goes through patterns. An operator's variables have types already.
func (o origins) match(patterns []api.Expr) {
	for _, x := range patterns {
		switch {
		case o.open(x):
			o[x.S] = plain
		case x.Kind == api.ECon:
			o.match(x.Kids)
		}
	}
}

// give lets the one side of a `=` that is a variable without a type get the other one's.
func (o origins) give(left, right api.Expr) {
	switch {
	case o.open(left):
		o[left.S] = o.of(right)
	case o.open(right):
		o[right.S] = o.of(left)
	}
}

// open tells whether an expression is a variable without a type.
func (o origins) open(x api.Expr) bool {
	return x.Kind == api.EVar && o[x.S] == 0
}

// of tells whether a value is made. What has operators or constructors in it is one itself.
func (o origins) of(x api.Expr) int {
	switch x.Kind {
	case api.EVar:
		return o[x.S]
	case api.EOp, api.ECon:
		return made
	}
	return plain
}
