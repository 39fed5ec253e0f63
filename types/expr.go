package types

import (
	"slices"

	"vestry/api"
)

// pattern looks at an expression as a pattern of a type.
func (w *walk) pattern(x api.Expr, t string) api.Fault {
	switch x.Kind {
	case api.EVar:
		return w.narrow(x, t)
	case api.EAny:
		return api.Fault{}
	case api.ENum:
		return w.based(x, t, number)
	case api.EText:
		return w.based(x, t, symbol)
	case api.EOp:
		if fault := w.based(x, t, number); fault.Why != api.OK {
			return fault
		}
		return w.operands(x)
	case api.ECon:
		return w.apart(x, t)
	}
	return wrong(api.ErrArg, x)
}

// narrow leaves a variable the lower one of its own type and the one of the place where it stands.
func (w *walk) narrow(x api.Expr, t string) api.Fault {
	if w.open(x) {
		w.put(x.S, t)
		return api.Fault{}
	}
	own := &w.vars[w.place[x.S]].Type
	if w.below(*own, t) {
		return api.Fault{}
	}
	if !w.below(t, *own) {
		return wrong(api.ErrType, x)
	}
	*own = t
	return api.Fault{}
}

// based is the fault of an expression in the place of a type that has not this base.
func (w *walk) based(x api.Expr, t, base string) api.Fault {
	if !w.has(t, base) {
		return wrong(api.ErrType, x)
	}
	return api.Fault{}
}

// apart looks at a constructor as a pattern, then at its Kids likewise.
func (w *walk) apart(x api.Expr, t string) api.Fault {
	ctor, sum, there := w.ctor(x.S)
	switch {
	case !there:
		return wrong(api.ErrNone, x)
	case !w.has(t, sum):
		return wrong(api.ErrType, x)
	case len(x.Kids) != len(ctor.Fields):
		return wrong(api.ErrWidth, x)
	}
	return each(x.Kids, ctor.Fields, w.pattern)
}

// value is the type of an expression as a value.
func (w *walk) value(x api.Expr) (string, api.Fault) {
	switch x.Kind {
	case api.EVar:
		if w.open(x) {
			return "", wrong(api.ErrGround, x)
		}
		return w.vars[w.place[x.S]].Type, api.Fault{}
	case api.EAny:
		return "", wrong(api.ErrGround, x)
	case api.ENum:
		return number, api.Fault{}
	case api.EText:
		return symbol, api.Fault{}
	case api.EOp:
		return number, w.operands(x)
	case api.ECon:
		return w.made(x)
	}
	return "", wrong(api.ErrArg, x)
}

// operands looks at an operator and at its Kids as values.
func (w *walk) operands(x api.Expr) api.Fault {
	if len(x.Kids) != 2 || !slices.Contains([]string{"+", "-", "*", "/", "%"}, x.S) {
		return wrong(api.ErrArg, x)
	}
	for _, kid := range x.Kids {
		t, fault := w.value(kid)
		if fault.Why != api.OK {
			return fault
		}
		if fault := w.based(kid, t, number); fault.Why != api.OK {
			return fault
		}
	}
	return api.Fault{}
}

// made is the type of a constructor as a value.
func (w *walk) made(x api.Expr) (string, api.Fault) {
	ctor, sum, there := w.ctor(x.S)
	switch {
	case !there:
		return "", wrong(api.ErrNone, x)
	case len(x.Kids) != len(ctor.Fields):
		return "", wrong(api.ErrWidth, x)
	}
	return sum, each(x.Kids, ctor.Fields, w.fitting)
}

// fitting looks at an expression as a value that must fit a type. A number and a text fit all types of their bases, but what an operator makes is of the type `number` itself.
func (w *walk) fitting(x api.Expr, t string) api.Fault {
	own, fault := w.value(x)
	if fault.Why != api.OK {
		return fault
	}
	literal := x.Kind == api.ENum || x.Kind == api.EText
	if literal && w.has(t, own) || w.below(own, t) {
		return api.Fault{}
	}
	return wrong(api.ErrType, x)
}

// likened looks at an expression as a value whose type must have the base of another one.
func (w *walk) likened(x api.Expr, t string) api.Fault {
	own, fault := w.value(x)
	if fault.Why != api.OK {
		return fault
	}
	if !w.alike(own, t) {
		return wrong(api.ErrType, x)
	}
	return api.Fault{}
}
