package lower

import "vestry/api"

// expr lowers an expression whose variables have registers.
func (s *scope) expr(x api.Expr) api.RExpr {
	s.left--
	switch x.Kind {
	case api.EVar:
		return asked(s.registers[x.S])
	case api.ENum:
		return api.RExpr{Kind: api.ENum, N: x.N}
	case api.EText:
		return api.RExpr{Kind: api.EText, S: x.S}
	}
	return api.RExpr{Kind: x.Kind, S: x.S, Kids: s.exprs(x.Kids)}
}

func (s *scope) exprs(list []api.Expr) []api.RExpr {
	lowered := make([]api.RExpr, len(list))
	for i, x := range list {
		lowered[i] = s.expr(x)
	}
	return lowered
}

// asked is an expression that asks for a register.
func asked(register int) api.RExpr { return api.RExpr{Kind: api.EVar, N: register} }
