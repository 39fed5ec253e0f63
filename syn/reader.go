package syn

import (
	"slices"
	"strings"

	"vestry/api"
)

// noKind is the kind of what stands behind the last token: no token has it.
const noKind = 0

// reader goes through a program's tokens.
type reader struct {
	toks  []api.Tok // those that are still to be read
	end   int       // the length of the text
	items int       // how many have begun, in components too
	deep  int       // how many Exprs, Factors and components are open
}

// stop is what a wrong place carries out of the reading.
type stop struct {
	fault api.Fault
}

// read reads all tokens as one program.
func read(r *reader) (p api.Prog, fault api.Fault) {
	defer func() {
		carried := recover()
		if carried == nil {
			return
		}
		halt, ours := carried.(stop)
		if !ours {
			panic(carried)
		}
		p, fault = api.Prog{}, halt.fault
	}()
	return r.prog(noKind, ""), api.Fault{}
}

// refuse ends the reading at the next token.
func (r *reader) refuse(why api.Errno) {
	panic(stop{api.Fault{Why: why, At: r.ahead(0).At}})
}

// ahead is the next token, or one behind it.
func (r *reader) ahead(n int) api.Tok {
	if n >= len(r.toks) {
		return api.Tok{Kind: noKind, At: r.end}
	}
	return r.toks[n]
}

func (r *reader) take() api.Tok {
	tok := r.ahead(0)
	r.toks = r.toks[1:]
	return tok
}

// sign is the sign that is next; no text, if something else is.
func (r *reader) sign() string {
	if tok := r.ahead(0); tok.Kind == api.TokSign {
		return tok.Text
	}
	return ""
}

// skip goes over a sign, if it is next, and tells whether it was.
func (r *reader) skip(sign string) bool {
	if r.sign() != sign {
		return false
	}
	r.take()
	return true
}

// want goes over a sign that must be next.
func (r *reader) want(sign string) {
	if !r.skip(sign) {
		r.refuse(api.ErrTok)
	}
}

// choose goes over the next token, which must be one of the signs.
func (r *reader) choose(signs ...string) string {
	if !slices.Contains(signs, r.sign()) {
		r.refuse(api.ErrTok)
	}
	return r.take().Text
}

func (r *reader) name() string {
	if r.ahead(0).Kind != api.TokWord {
		r.refuse(api.ErrTok)
	}
	return r.take().Text
}

func (r *reader) word() string {
	if !isWord(r.ahead(0)) {
		r.refuse(api.ErrTok)
	}
	return r.take().Text
}

// isWord tells whether a token may name something new: names with points are made of such ones, and `_` names nothing.
func isWord(tok api.Tok) bool {
	return tok.Kind == api.TokWord && tok.Text != "_" && !strings.Contains(tok.Text, ".")
}

// callNext tells whether a name is next behind which `(` stands.
func (r *reader) callNext() bool {
	behind := r.ahead(1)
	return r.ahead(0).Kind == api.TokWord && behind.Kind == api.TokSign && behind.Text == "("
}

// enter begins an Expr, a Factor or a component at the next token.
func (r *reader) enter() {
	if r.deep == api.MaxDeep {
		r.refuse(api.ErrDeep)
	}
	r.deep++
}

func (r *reader) leave() {
	r.deep--
}

// list reads parts, at least one and at most some, with a sign between them.
func list[T any](r *reader, between string, most int, part func() T) []T {
	var all []T
	for {
		// One too many counts ahead of what is wrong with it.
		if len(all) == most {
			r.refuse(api.ErrMany)
		}
		all = append(all, part())
		if !r.skip(between) {
			return all
		}
	}
}

// enclosed reads, between two signs, columns or arguments: MaxWidth of them, or fewer, or none.
func enclosed[T any](r *reader, open, closing string, part func() T) []T {
	r.want(open)
	if r.skip(closing) {
		return nil
	}
	all := list(r, ",", api.MaxWidth, part)
	r.want(closing)
	return all
}
