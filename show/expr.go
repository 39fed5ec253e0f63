package show

import (
	"vestry/api"
	"vestry/num"
	"vestry/term"
)

// expr writes an expression; one of no Kind has no text.
func (w *writer) expr(x api.Expr) {
	switch x.Kind {
	case api.EVar:
		w.add(x.S)
	case api.ENum:
		w.add(num.Text(x.N))
	case api.EText:
		w.add(term.Text(api.Val{Kind: api.Sym, S: x.S}))
	case api.EAny:
		w.add("_")
	case api.EOp:
		w.operator(x)
	case api.ECon:
		w.put("$", x.S, "(")
		list(w, ", ", x.Kids, w.expr)
		w.add(")")
	}
}

// operator writes an operator between its two Kids; one that has not two has no text.
func (w *writer) operator(x api.Expr) {
	// Without room nothing is gone into any more: one Kid may stand in the other's place again and again.
	if w.long || len(x.Kids) != 2 {
		return
	}
	w.operand(x.Kids[0])
	w.put(" ", x.S, " ")
	w.operand(x.Kids[1])
}

func (w *writer) operand(x api.Expr) {
	if x.Kind != api.EOp {
		w.expr(x)
		return
	}
	w.add("(")
	w.expr(x)
	w.add(")")
}
