package pass

import (
	"slices"

	"vestry/api"
	"vestry/num"
)

// fold folds a program.
func fold(p *api.Prog) bool {
	turned := false
	for i := range p.Clauses {
		within(&p.Clauses[i], func(x *api.Expr) { turned = reckon(x) || turned })
	}
	clauses := len(p.Clauses)
	p.Clauses = slices.DeleteFunc(p.Clauses, hopeless)
	for i := range p.Clauses {
		turned = settle(&p.Clauses[i]) || turned
	}
	return turned || len(p.Clauses) < clauses
}

// reckon makes an operator of two numbers that has a value that number.
func reckon(x *api.Expr) bool {
	if x.Kind != api.EOp || len(x.Kids) != 2 || x.Kids[0].Kind != api.ENum || x.Kids[1].Kind != api.ENum {
		return false
	}
	n, e := num.Op(x.S, x.Kids[0].N, x.Kids[1].N)
	if e != api.OK {
		return false
	}
	*x = api.Expr{Kind: api.ENum, N: n, At: x.At}
	return true
}

// decided tells whether a Lit is a comparison of two numbers, and whether it holds.
func decided(l api.Lit) (is, holds bool) {
	if l.Kind != api.LCmp || l.L.Kind != api.ENum || l.R.Kind != api.ENum {
		return false, false
	}
	holds, e := num.Cmp(l.Op, l.L.N, l.R.N)
	return e == api.OK, holds
}

// hopeless tells whether a Clause has a comparison of two numbers that does not hold.
func hopeless(c api.Clause) bool {
	return slices.ContainsFunc(c.Body, func(l api.Lit) bool {
		is, holds := decided(l)
		return is && !holds
	})
}

// settle lets the comparisons of two numbers go, all of which hold.
func settle(c *api.Clause) bool {
	lits := len(c.Body)
	c.Body = slices.DeleteFunc(c.Body, func(l api.Lit) bool {
		is, _ := decided(l)
		return is
	})
	return len(c.Body) < lits
}
