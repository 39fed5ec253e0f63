package syn

import (
	"slices"

	"vestry/api"
)

func (r *reader) expr() api.Expr {
	r.enter()
	x := r.joined(r.term, "+", "-")
	r.leave()
	return x
}

func (r *reader) term() api.Expr {
	return r.joined(r.factor, "*", "/", "%")
}

// joined reads operands with operators between: those to the left belong together.
func (r *reader) joined(operand func() api.Expr, signs ...string) api.Expr {
	x := operand()
	for slices.Contains(signs, r.sign()) {
		op := r.take().Text
		x = operator(op, x, operand())
	}
	return x
}

func operator(op string, left, right api.Expr) api.Expr {
	return api.Expr{Kind: api.EOp, S: op, Kids: []api.Expr{left, right}, At: left.At}
}

func (r *reader) factor() api.Expr {
	r.enter()
	var x api.Expr
	switch tok := r.ahead(0); {
	case tok.Kind == api.TokNum:
		x = api.Expr{Kind: api.ENum, N: r.take().N, At: tok.At}
	case tok.Kind == api.TokText:
		x = api.Expr{Kind: api.EText, S: r.take().Text, At: tok.At}
	case tok.Kind == api.TokWord:
		x = r.variable()
	default:
		x = r.signed()
	}
	r.leave()
	return x
}

// variable reads a variable or `_`.
func (r *reader) variable() api.Expr {
	tok := r.ahead(0)
	if tok.Text == "_" {
		return api.Expr{Kind: api.EAny, At: r.take().At}
	}
	return api.Expr{Kind: api.EVar, S: r.word(), At: tok.At}
}

// signed reads a Factor that begins with a sign.
func (r *reader) signed() api.Expr {
	at := r.ahead(0).At
	switch r.choose("-", "(", "$") {
	case "-":
		return r.minus(at)
	case "(":
		x := r.expr()
		r.want(")")
		return x
	}
	x := api.Expr{Kind: api.ECon, S: r.word(), At: at}
	x.Kids = enclosed(r, "(", ")", r.expr)
	return x
}

// minus reads what stands behind a `-` at a place.
func (r *reader) minus(at int) api.Expr {
	number := r.ahead(0).Kind == api.TokNum
	x := r.factor()
	if number {
		return api.Expr{Kind: api.ENum, N: -x.N, At: at}
	}
	return operator("-", api.Expr{Kind: api.ENum, At: at}, x)
}
