package pass

import (
	"strings"

	"vestry/api"
	"vestry/copies"
	"vestry/num"
)

// newWords gives out the numbers of new variables, one by one: of `v1`, `v2` and so on those that are no words in the program.
func (w *web) newWords() func() int {
	n := 0
	return func() int {
		n++
		for w.words[n] > 0 {
			n++
		}
		return n
	}
}

// word is the word of a new variable.
func word(n int) string { return "v" + num.Text(n) }

// number is the number of a variable whose word is like a new one's.
func number(x api.Expr) (int, bool) {
	digits, there := strings.CutPrefix(x.S, "v")
	if !there || x.Kind != api.EVar {
		return 0, false
	}
	n, e := num.Parse(digits)
	return n, e == api.OK
}

// spliced is a Clause with the Body of another one in the place of each atom of that one's relation.
func spliced(c, own api.Clause, next func() int) api.Clause {
	var body []api.Lit
	for _, l := range c.Body {
		if l.Kind == api.LAtom && l.Atom.Rel == own.Head.Rel {
			body = append(body, instead(l.Atom, own, next)...)
		} else {
			body = append(body, l)
		}
	}
	c.Body = body
	return c
}

// instead is what stands in the place of an atom: a Clause's Body, with the atom's Args for the variables of the head.
func instead(a api.Atom, own api.Clause, next func() int) []api.Lit {
	args := make(map[string]api.Expr, len(a.Args))
	for i, x := range own.Head.Args {
		arg := api.Expr{Kind: api.EVar, S: a.Args[i].S, At: a.Args[i].At}
		if a.Args[i].Kind == api.EAny {
			arg.S = word(next())
		}
		args[x.S] = arg
	}
	others := map[string]int{}
	body := copies.List(own.Body, copies.Lit)
	withinLits(body, func(x *api.Expr) {
		if x.Kind != api.EVar {
			return
		}
		if arg, there := args[x.S]; there {
			*x = arg
			return
		}
		if _, there := others[x.S]; !there {
			others[x.S] = next()
		}
		x.S = word(others[x.S])
	})
	return body
}
