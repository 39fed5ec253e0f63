package ram

import (
	"strconv"
	"strings"
	"testing"

	"vestry/api"
	"vestry/term"
)

// Expressions.

func reg(n int) api.RExpr     { return api.RExpr{Kind: api.EVar, N: n} }
func numeral(n int) api.RExpr { return api.RExpr{Kind: api.ENum, N: n} }
func texted(s string) api.RExpr {
	return api.RExpr{Kind: api.EText, S: s}
}
func op(sign string, a, b api.RExpr) api.RExpr {
	return api.RExpr{Kind: api.EOp, S: sign, Kids: []api.RExpr{a, b}}
}
func built(word string, kids ...api.RExpr) api.RExpr {
	return api.RExpr{Kind: api.ECon, S: word, Kids: kids}
}

// Nodes.

func scanOf(rel, from int, keys []api.RKey, kids ...api.RNode) api.RNode {
	return api.RNode{Kind: api.RScan, Rel: rel, From: from, Keys: keys, Kids: kids}
}
func hasOf(rel int, exprs []api.RExpr, kids ...api.RNode) api.RNode {
	return api.RNode{Kind: api.RHas, Rel: rel, Exprs: exprs, Kids: kids}
}
func notOf(rel int, exprs []api.RExpr, kids ...api.RNode) api.RNode {
	return api.RNode{Kind: api.RNot, Rel: rel, Exprs: exprs, Kids: kids}
}
func cmpOf(sign string, l, r api.RExpr, kids ...api.RNode) api.RNode {
	return api.RNode{Kind: api.RCmp, Op: sign, L: l, R: r, Kids: kids}
}
func letOf(from int, l api.RExpr, kids ...api.RNode) api.RNode {
	return api.RNode{Kind: api.RLet, From: from, L: l, Kids: kids}
}
func matchOf(n int, word string, other, from int, kids ...api.RNode) api.RNode {
	return api.RNode{Kind: api.RMatch, N: n, S: word, Other: other, From: from, Kids: kids}
}
func putOf(rel int, exprs ...api.RExpr) api.RNode {
	return api.RNode{Kind: api.RPut, Rel: rel, Exprs: exprs}
}
func seqOf(kids ...api.RNode) api.RNode { return api.RNode{Kind: api.RSeq, Kids: kids} }
func loopOf(rels []int, kids ...api.RNode) api.RNode {
	return api.RNode{Kind: api.RLoop, Rels: rels, Kids: kids}
}
func clearOf(rel int) api.RNode        { return api.RNode{Kind: api.RClear, Rel: rel} }
func swapOf(rel, other int) api.RNode  { return api.RNode{Kind: api.RSwap, Rel: rel, Other: other} }
func mergeOf(rel, other int) api.RNode { return api.RNode{Kind: api.RMerge, Rel: rel, Other: other} }

func key(col int, x api.RExpr) api.RKey { return api.RKey{Col: col, X: x} }
func keysOf(all ...api.RKey) []api.RKey { return all }
func exprsOf(all ...api.RExpr) []api.RExpr {
	return all
}

// program: one with so many registers.
func program(regs int, main api.RNode, widths ...int) api.Ram {
	return api.Ram{Widths: widths, Regs: regs, Main: main}
}

// Values.

func numOf(n int) api.Val    { return api.Val{Kind: api.Num, N: n} }
func symOf(s string) api.Val { return api.Val{Kind: api.Sym, S: s} }
func conOf(word string, args ...api.Val) api.Val {
	return api.Val{Kind: api.Con, S: word, Args: args}
}

// rows: relations, from a text: ` | ` stands between relations, `; ` between tuples, a blank between numbers and texts, `()` is the tuple without values.
func rows(text string) [][][]api.Val {
	var in [][][]api.Val
	for _, rel := range strings.Split(text, "|") {
		var tuples [][]api.Val
		for _, tuple := range strings.Split(rel, ";") {
			var t []api.Val
			for _, word := range strings.Fields(tuple) {
				if n, err := strconv.Atoi(word); err == nil {
					t = append(t, numOf(n))
				} else if word != "()" {
					t = append(t, symOf(word))
				}
			}
			if strings.TrimSpace(tuple) != "" {
				tuples = append(tuples, t)
			}
		}
		in = append(in, tuples)
	}
	return in
}

// tupleText: a tuple, as rows would read it; texts of letters stand without quotes.
func tupleText(t []api.Val) string {
	if len(t) == 0 {
		return "()"
	}
	var words []string
	for _, v := range t {
		if v.Kind == api.Sym && term.Right(v) {
			words = append(words, v.S)
		} else {
			words = append(words, term.Text(v))
		}
	}
	return strings.Join(words, " ")
}

// told: relations, as rows would read them.
func told(out [][][]api.Val) string {
	var rels []string
	for _, tuples := range out {
		var all []string
		for _, t := range tuples {
			all = append(all, tupleText(t))
		}
		rels = append(rels, strings.Join(all, "; "))
	}
	return strings.Join(rels, " | ")
}

// exprText: an expression, for what a failing test tells.
func exprText(x api.RExpr) string {
	switch x.Kind {
	case api.EVar:
		return "r" + strconv.Itoa(x.N)
	case api.ENum:
		return strconv.Itoa(x.N)
	case api.EText:
		return strconv.Quote(x.S)
	}
	return strconv.Itoa(x.Kind) + x.S + exprsText(x.Kids)
}

func exprsText(list []api.RExpr) string {
	var all []string
	for _, x := range list {
		all = append(all, exprText(x))
	}
	return "(" + strings.Join(all, ", ") + ")"
}

// nodeText: a node, for what a failing test tells.
func nodeText(n api.RNode) string {
	names := []string{"none", "scan", "has", "not", "cmp", "let", "put", "match", "loop", "seq", "clear", "swap", "merge"}
	name := strconv.Itoa(n.Kind)
	if n.Kind > 0 && n.Kind < len(names) {
		name = names[n.Kind]
	}
	var text strings.Builder
	text.WriteString(name)
	switch n.Kind {
	case api.RScan, api.RHas, api.RNot, api.RPut, api.RClear:
		text.WriteString(" R" + strconv.Itoa(n.Rel))
	case api.RSwap, api.RMerge:
		text.WriteString(" R" + strconv.Itoa(n.Rel) + " R" + strconv.Itoa(n.Other))
	case api.RCmp:
		text.WriteString(" " + exprText(n.L) + " " + n.Op + " " + exprText(n.R))
	case api.RLet:
		text.WriteString(" " + exprText(n.L))
	case api.RMatch:
		text.WriteString(" r" + strconv.Itoa(n.N) + " is " + n.S + "/" + strconv.Itoa(n.Other))
	case api.RLoop:
		for _, rel := range n.Rels {
			text.WriteString(" R" + strconv.Itoa(rel))
		}
	}
	if n.Kind == api.RScan || n.Kind == api.RLet || n.Kind == api.RMatch {
		text.WriteString(" from r" + strconv.Itoa(n.From))
	}
	if len(n.Exprs) > 0 {
		text.WriteString(exprsText(n.Exprs))
	}
	for _, k := range n.Keys {
		text.WriteString(" [" + strconv.Itoa(k.Col) + ": " + exprText(k.X) + "]")
	}
	for i, kid := range n.Kids {
		text.WriteString([]string{" { ", "; "}[min(i, 1)] + nodeText(kid))
	}
	if len(n.Kids) > 0 {
		text.WriteString(" }")
	}
	return text.String()
}

func progText(m api.Ram) string {
	text := "widths"
	for _, w := range m.Widths {
		text += " " + strconv.Itoa(w)
	}
	return text + ", " + strconv.Itoa(m.Regs) + " registers: " + nodeText(m.Main)
}

// example: the chapter's.
func example() api.Ram {
	return program(2, scanOf(0, 0, nil, cmpOf("=", reg(0), numeral(5), putOf(1, reg(1)))), 2, 1)
}

// P16.1, P16.2, P16.3: the chapter's example.
func TestExample(t *testing.T) {
	m := example()
	if !Check(m) {
		t.Error("it may not be")
	}
	want := program(2, scanOf(0, 0, keysOf(key(0, numeral(5))), putOf(1, reg(1))), 2, 1)
	if got := Tight(m); !Same(got, want) {
		t.Errorf("%s, want %s", progText(got), progText(want))
	}
	runs(t, m, "5 7; 4 8; 5 6 |", "4 8; 5 6; 5 7 | 6; 7", 1+3+3+2)
	runs(t, want, "5 7; 4 8; 5 6 |", "4 8; 5 6; 5 7 | 6; 7", 1+2+2)
}

// The zero program may not be, and is what it is.
func TestZero(t *testing.T) {
	if Check(api.Ram{}) {
		t.Error("it may be")
	}
	if out, steps, e := Run(api.Ram{}, nil, 9); out != nil || steps != 0 || e != api.ErrArg {
		t.Errorf("%v, %d, %v", out, steps, e)
	}
	if !Same(Tight(api.Ram{}), api.Ram{}) || !Same(api.Ram{}, api.Ram{}) {
		t.Error("it is not the same")
	}
}
