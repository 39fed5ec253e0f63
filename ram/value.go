package ram

import (
	"vestry/api"
	"vestry/num"
	"vestry/term"
)

// asked are the values of what a node asks for. Where one has none a fault is told.
func (r *run) asked(list ...api.RExpr) ([]api.Val, bool) {
	found, there := values(list, r.value)
	if !there {
		r.faulty = true
	}
	return found, there
}

// values are the values of expressions, each found by one.
func values(list []api.RExpr, one func(x api.RExpr) (api.Val, bool)) ([]api.Val, bool) {
	all := make([]api.Val, len(list))
	for i, x := range list {
		v, there := one(x)
		if !there {
			return nil, false
		}
		all[i] = v
	}
	return all, true
}

// value is an expression's value, if it has one.
func (r *run) value(x api.RExpr) (api.Val, bool) {
	v, there := r.made(x)
	if !there || x.Kind == api.ECon && !term.Right(v) {
		return api.Val{}, false
	}
	return v, true
}

// made is what an expression comes to. Whether a constructor's value may be is not asked here: what holds one that may not be may not be either, so that one look at the outermost tells it of all.
func (r *run) made(x api.RExpr) (api.Val, bool) {
	switch x.Kind {
	case api.EVar:
		return r.regs[x.N], true
	case api.ENum:
		return api.Val{Kind: api.Num, N: x.N}, true
	case api.EText:
		return api.Val{Kind: api.Sym, S: x.S}, true
	}
	if x.Kind == api.EOp {
		n, there := r.operated(x)
		if !there {
			return api.Val{}, false
		}
		return api.Val{Kind: api.Num, N: n}, true
	}
	args, there := values(x.Kids, r.made)
	if !there {
		return api.Val{}, false
	}
	return api.Val{Kind: api.Con, S: x.S, Args: args}, true
}

// operated is an operator's number, if it has one.
func (r *run) operated(x api.RExpr) (int, bool) {
	a, there := r.number(x.Kids[0])
	if !there {
		return 0, false
	}
	b, there := r.number(x.Kids[1])
	if !there {
		return 0, false
	}
	n, e := num.Op(x.S, a, b)
	return n, e == api.OK
}

// number is the number that an operator's Kid is, if it is one.
func (r *run) number(x api.RExpr) (int, bool) {
	if x.Kind == api.EOp {
		return r.operated(x)
	}
	v, there := r.made(x)
	return v.N, there && v.Kind == api.Num
}

// compare tells whether a comparison holds, and whether it has a value.
func compare(op string, a, b api.Val) (bool, bool) {
	switch {
	case op == "=":
		return order(a, b) == 0, true
	case op == "!=":
		return order(a, b) != 0, true
	case a.Kind != api.Num || b.Kind != api.Num:
		return false, false
	}
	holds, e := num.Cmp(op, a.N, b.N)
	return holds, e == api.OK
}
