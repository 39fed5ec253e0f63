package ram

import (
	"slices"
	"testing"

	"vestry/api"
)

// tightens: a node among the registers 0 to 3, and relations of the widths 0 to 8, and one of 2, is made that one.
func tightens(t *testing.T, n, want api.RNode) {
	t.Helper()
	if m := around(n); !Check(m) {
		t.Errorf("%s may not be", nodeText(n))
	}
	got := Tight(around(n))
	if !Same(got, around(want)) {
		t.Errorf("%s\nis %s\nwant %s", nodeText(n), nodeText(got.Main.Kids[0].Kids[0].Kids[0].Kids[0]), nodeText(want))
	}
	if !Check(got) || !Same(Tight(got), got) {
		t.Errorf("%s may not be, or is made another one again", progText(got))
	}
}

func stays(t *testing.T, n api.RNode) {
	t.Helper()
	tightens(t, n, n)
}

var (
	five = api.RExpr{Kind: api.ENum, N: 5}
	put  = api.RNode{Kind: api.RPut, Rel: 0}
)

// P16.3: a comparison of an own register with another one, a number or a text becomes a key; of either side.
func TestBecomesKey(t *testing.T) {
	for _, x := range exprsOf(reg(0), reg(3), five, texted("a"), texted("")) {
		for col := range 3 {
			want := scanOf(3, 4, keysOf(key(col, x)), put)
			tightens(t, scanOf(3, 4, nil, cmpOf("=", reg(4+col), x, put)), want)
			tightens(t, scanOf(3, 4, nil, cmpOf("=", x, reg(4+col), put)), want)
		}
		stays(t, scanOf(3, 7, nil, cmpOf("!=", reg(7), x, put)))
		stays(t, scanOf(3, 7, nil, cmpOf("<", reg(7), x, put)))
		stays(t, scanOf(3, 7, nil, cmpOf(">=", x, reg(7), put)))
	}
	tightens(t, scanOf(1, 0, nil, cmpOf("=", reg(0), reg(1), put)), scanOf(1, 0, keysOf(key(0, reg(1))), put))
	tightens(t, scanOf(2, 1, nil, cmpOf("=", reg(0), reg(2), put)), scanOf(2, 1, keysOf(key(1, reg(0))), put))
	tightens(t, scanOf(2, 1, nil, cmpOf("=", reg(3), reg(1), put)), scanOf(2, 1, keysOf(key(0, reg(3))), put))
	tightens(t, scanOf(8, 4, nil, cmpOf("=", reg(11), five)), scanOf(8, 4, keysOf(key(7, five))))
}

// P16.3: the key comes where it has its place, and the comparison's Kids, all of them, come where it was.
func TestKeysPlace(t *testing.T) {
	x := texted("x")
	was := keysOf(key(1, built("A", reg(0))), key(4, op("+", reg(0), five)))
	for col, want := range map[int][]api.RKey{
		0: keysOf(key(0, x), was[0], was[1]),
		2: keysOf(was[0], key(2, x), was[1]),
		3: keysOf(was[0], key(3, x), was[1]),
		5: keysOf(was[0], was[1], key(5, x)),
	} {
		kids := []api.RNode{put, letOf(0, five, put), cmpOf("=", reg(4), five, put), seqOf()}
		tightens(t, scanOf(6, 4, was, cmpOf("=", reg(4+col), x, kids...)), scanOf(6, 4, want, kids...))
	}
	for _, col := range []int{1, 4} {
		stays(t, scanOf(6, 4, was, cmpOf("=", reg(4+col), x, put)))
		stays(t, scanOf(6, 4, was, cmpOf("=", x, reg(4+col), put)))
	}
}

// P16.3: where both sides are own registers nothing is done, with a key of one of them or without.
func TestBothOwn(t *testing.T) {
	for _, keys := range [][]api.RKey{nil, keysOf(key(0, five)), keysOf(key(1, five)), keysOf(key(0, five), key(1, five)), keysOf(key(2, five))} {
		for _, sign := range []string{"=", "!=", "<"} {
			stays(t, scanOf(3, 4, keys, cmpOf(sign, reg(4), reg(5), put)))
			stays(t, scanOf(3, 4, keys, cmpOf(sign, reg(5), reg(4), put)))
			stays(t, scanOf(3, 4, keys, cmpOf(sign, reg(4), reg(4), put)))
		}
	}
	// Set around the scan, too, they are its own.
	stays(t, scanOf(3, 1, nil, cmpOf("=", reg(1), reg(2), put)))
}

// P16.3: a comparison of what the scan does not set stands around it.
func TestStandsAround(t *testing.T) {
	plain := exprsOf(reg(0), reg(3), five, texted("a"))
	for _, a := range plain {
		for _, b := range plain {
			for _, keys := range [][]api.RKey{nil, keysOf(key(0, reg(1)), key(1, five), key(2, texted("b")))} {
				for _, sign := range []string{"=", "!="} {
					tightens(t, scanOf(3, 4, keys, cmpOf(sign, a, b, put, seqOf())), cmpOf(sign, a, b, scanOf(3, 4, keys, put, seqOf())))
				}
				stays(t, scanOf(3, 4, keys, cmpOf("<", a, b, put)))
				stays(t, scanOf(3, 4, keys, cmpOf(">", a, b, put)))
				stays(t, scanOf(3, 4, keys, cmpOf("<=", a, b, put)))
			}
		}
	}
	tightens(t, scanOf(0, 12, nil, cmpOf("=", reg(0), five)), cmpOf("=", reg(0), five, scanOf(0, 12, nil)))
}

// P16.3: it does not, where a key's X is an operator or a constructor: that may fault.
func TestKeysThatFault(t *testing.T) {
	for _, x := range exprsOf(op("+", reg(0), five), built("A"), built("A", reg(0))) {
		keys := keysOf(key(0, five), key(1, x))
		stays(t, scanOf(3, 4, keys, cmpOf("=", reg(0), five, put)))
		stays(t, scanOf(3, 4, keys, cmpOf("!=", reg(0), five, put)))
		tightens(t, scanOf(3, 4, keys, cmpOf("=", reg(6), five, put)), scanOf(3, 4, append(keys, key(2, five)), put))
	}
}

// P16.3: neither is done of operators and constructors, of a key or a comparison.
func TestOperators(t *testing.T) {
	for _, x := range exprsOf(op("+", reg(0), five), built("A"), built("A", reg(0)), op("-", reg(4), five)) {
		for _, own := range exprsOf(reg(4), reg(0), five, x) {
			for _, sign := range []string{"=", "!="} {
				stays(t, scanOf(2, 4, nil, cmpOf(sign, own, x, put)))
				stays(t, scanOf(2, 4, nil, cmpOf(sign, x, own, put)))
			}
		}
	}
}

// P16.3: a scan's Kids must be the one comparison.
func TestOneKid(t *testing.T) {
	cmp := cmpOf("=", reg(4), five, put)
	stays(t, scanOf(2, 4, nil))
	stays(t, scanOf(2, 4, nil, put))
	stays(t, scanOf(2, 4, nil, cmp, cmp))
	stays(t, scanOf(2, 4, nil, cmp, seqOf()))
	stays(t, scanOf(2, 4, nil, seqOf(), cmp))
	stays(t, scanOf(2, 4, nil, seqOf(cmp)))
	stays(t, scanOf(2, 4, nil, loopOf(nil, cmp)))
	stays(t, scanOf(2, 4, nil, hasOf(0, nil, cmp)))
	stays(t, letOf(4, five, cmp))
	stays(t, cmpOf("=", reg(0), five, cmpOf("=", reg(1), five, put)))
	stays(t, matchOf(0, "A", 2, 4, cmp))
}

// setting: nodes that set the register 5, and some that do not.
func setting() (does, not []api.RNode) {
	does = []api.RNode{
		letOf(5, five),
		scanOf(1, 5, nil), scanOf(3, 4, nil), scanOf(3, 3, nil), scanOf(8, 4, nil),
		matchOf(0, "A", 1, 5), matchOf(0, "A", 2, 4), matchOf(0, "A", 3, 3),
	}
	not = []api.RNode{
		letOf(6, five), letOf(4, five),
		scanOf(0, 5, nil), scanOf(3, 6, nil), scanOf(3, 2, nil),
		matchOf(0, "A", 0, 5), matchOf(0, "A", 3, 2), matchOf(0, "A", 3, 6),
		seqOf(), turned(seqOf(), func(n *api.RNode) { n.From, n.Rel, n.Other = 5, 1, 1 }),
	}
	return does, not
}

// wrapped: a node alone, and within others, as Kids.
func wrapped(n api.RNode) [][]api.RNode {
	return [][]api.RNode{
		{n},
		{put, n},
		{n, put},
		{seqOf(put, loopOf(nil, seqOf(), seqOf(n)))},
		{scanOf(1, 6, nil, n)},
		{hasOf(0, nil, letOf(6, five, matchOf(6, "A", 0, 0, n)))},
		{put, cmpOf("<", five, five, notOf(0, nil, put, n), put)},
	}
}

// P16.3: neither is done, if a side that is a register, but no own one, is set by a node in the comparison's Kids.
func TestSetWithin(t *testing.T) {
	does, not := setting()
	for i, n := range append(does, not...) {
		for _, kids := range wrapped(n) {
			m := func(cmp api.RNode, keys ...api.RKey) api.RNode { return letOf(5, five, scanOf(2, 7, keys, cmp)) }
			ownLeft, ownRight := cmpOf("=", reg(7), reg(5), kids...), cmpOf("=", reg(5), reg(8), kids...)
			left, right := cmpOf("!=", reg(5), reg(0), kids...), cmpOf("=", texted("a"), reg(5), kids...)
			if i < len(does) {
				for _, cmp := range []api.RNode{ownLeft, ownRight, left, right} {
					stays(t, m(cmp))
				}
				continue
			}
			tightens(t, m(ownLeft), letOf(5, five, scanOf(2, 7, keysOf(key(0, reg(5))), kids...)))
			tightens(t, m(ownRight), letOf(5, five, scanOf(2, 7, keysOf(key(1, reg(5))), kids...)))
			tightens(t, m(left), letOf(5, five, turned(left, func(n *api.RNode) { n.Kids = []api.RNode{scanOf(2, 7, nil, kids...)} })))
			tightens(t, m(right), letOf(5, five, turned(right, func(n *api.RNode) { n.Kids = []api.RNode{scanOf(2, 7, nil, kids...)} })))
		}
	}
}

// P16.3: what sets an own register in the comparison's Kids, or a key's, keeps nothing from being done.
func TestOwnSetWithin(t *testing.T) {
	does, _ := setting()
	for _, n := range does {
		for _, kids := range wrapped(n) {
			tightens(t, scanOf(2, 5, nil, cmpOf("=", reg(5), five, kids...)), scanOf(2, 5, keysOf(key(0, five)), kids...))
			keys := keysOf(key(0, reg(5)))
			scan := scanOf(2, 8, keys, cmpOf("!=", texted("a"), five, kids...))
			tightens(t, letOf(5, five, scan), letOf(5, five, cmpOf("!=", texted("a"), five, scanOf(2, 8, keys, kids...))))
		}
	}
}

// P16.3: as long as one can be done, the first one first; what stands around stays in its order.
func TestAsLongAs(t *testing.T) {
	own, outer := cmpOf("=", reg(4), five), cmpOf("!=", reg(0), five)
	other, last := cmpOf("=", reg(1), reg(2)), cmpOf("=", texted("a"), reg(6))
	less := cmpOf("<", reg(0), five)
	nest := func(list ...api.RNode) api.RNode {
		n := put
		for _, around := range slices.Backward(list) {
			around.Kids = []api.RNode{n}
			n = around
		}
		return n
	}
	scan := scanOf(3, 4, nil)
	keyed := func(keys ...api.RKey) api.RNode { return scanOf(3, 4, keys) }
	first, third := key(0, five), key(2, texted("a"))
	tightens(t, nest(scan, own, last), nest(keyed(first, third)))
	tightens(t, nest(scan, last, own), nest(keyed(first, third)))
	tightens(t, nest(scan, outer, other), nest(outer, other, scan))
	tightens(t, nest(scan, other, outer), nest(other, outer, scan))
	tightens(t, nest(scan, outer, own, other, last), nest(outer, other, keyed(first, third)))
	tightens(t, nest(scan, own, outer, last, other), nest(outer, other, keyed(first, third)))
	tightens(t, nest(scan, own, less, last), nest(keyed(first), less, last))
	tightens(t, nest(scan, less, own, outer), nest(scan, less, own, outer))
	// The column has a key then.
	tightens(t, nest(scan, own, own), nest(keyed(first), own))
	tightens(t, nest(scan, own, cmpOf("=", reg(4), reg(0)), outer), nest(keyed(first), cmpOf("=", reg(4), reg(0)), outer))
	// Behind a key that is an operator nothing stands around.
	sum := keyed(key(1, op("+", five, five)))
	tightens(t, nest(sum, own, outer), nest(keyed(first, sum.Keys[0]), outer))
}

// P16.3: from the innermost nodes on: what stands around an inner scan may go on to stand around outer ones, or become their key.
func TestInnermostFirst(t *testing.T) {
	inner := func(keys []api.RKey, kids ...api.RNode) api.RNode { return scanOf(2, 6, keys, kids...) }
	tightens(t,
		scanOf(2, 4, nil, inner(nil, cmpOf("=", reg(5), five, put))),
		scanOf(2, 4, keysOf(key(1, five)), inner(nil, put)))
	tightens(t,
		scanOf(2, 4, nil, inner(nil, cmpOf("!=", reg(0), five, put))),
		cmpOf("!=", reg(0), five, scanOf(2, 4, nil, inner(nil, put))))
	tightens(t,
		scanOf(2, 4, nil, inner(nil, cmpOf("=", reg(5), reg(7), put))),
		scanOf(2, 4, nil, inner(keysOf(key(1, reg(5))), put)))
	tightens(t,
		scanOf(2, 4, nil, inner(nil, cmpOf("=", reg(6), five, cmpOf("=", reg(0), reg(4), cmpOf("!=", reg(5), texted("a"), put))))),
		scanOf(2, 4, keysOf(key(0, reg(0))), cmpOf("!=", reg(5), texted("a"), inner(keysOf(key(0, five)), put))))
	// In several places at once, within nodes of each Kind.
	was, want := scanOf(1, 4, nil, cmpOf("=", reg(4), five, put)), scanOf(1, 4, keysOf(key(0, five)), put)
	for _, wrap := range []func(kids ...api.RNode) api.RNode{
		seqOf,
		func(kids ...api.RNode) api.RNode { return loopOf([]int{1}, kids...) },
		func(kids ...api.RNode) api.RNode { return hasOf(0, nil, kids...) },
		func(kids ...api.RNode) api.RNode { return notOf(0, nil, kids...) },
		func(kids ...api.RNode) api.RNode { return cmpOf("<", five, reg(0), kids...) },
		func(kids ...api.RNode) api.RNode { return letOf(6, five, kids...) },
		func(kids ...api.RNode) api.RNode { return matchOf(0, "A", 1, 6, kids...) },
		func(kids ...api.RNode) api.RNode { return scanOf(2, 6, nil, kids...) },
	} {
		tightens(t, wrap(was, put, was), wrap(want, put, want))
		tightens(t, wrap(seqOf(was), wrap(was)), wrap(seqOf(want), wrap(want)))
	}
	// A scan that the comparison of another one stands around is no Kid that is a comparison.
	tightens(t,
		scanOf(2, 4, nil, seqOf(inner(nil, cmpOf("=", reg(5), five, put)))),
		scanOf(2, 4, nil, seqOf(cmpOf("=", reg(5), five, inner(nil, put)))))
	// Set by an inner scan, it goes no further out.
	stays(t, letOf(6, five, scanOf(2, 4, nil, cmpOf("=", reg(4), reg(6), inner(nil, put)))))
}

// P16.3: fields that do not count stay, where a node stays.
func TestOtherFieldsStay(t *testing.T) {
	x := api.RExpr{Kind: api.ENum, N: 5, S: "odd"}
	own := api.RExpr{Kind: api.EVar, N: 4, S: "own"}
	cmp := api.RNode{Kind: api.RCmp, Op: "=", L: own, R: x, Rel: 7, Other: 8, From: 9, N: 10, S: "cmp", Kids: []api.RNode{put}}
	scan := api.RNode{Kind: api.RScan, Rel: 2, From: 4, Other: -1, N: -2, S: "scan", Op: "?", Kids: []api.RNode{cmp}}
	want := scan
	want.Keys, want.Kids = keysOf(key(0, x)), []api.RNode{put}
	tightens(t, scan, want)
	cmp.L = api.RExpr{Kind: api.EText, N: 7, S: "a"}
	scan.Kids = []api.RNode{cmp}
	want = cmp
	scan.Kids = []api.RNode{put}
	want.Kids = []api.RNode{scan}
	scan.Kids = []api.RNode{cmp}
	tightens(t, scan, want)
}

// P16.3: the outermost node is made tight, too; a program that may not be stays as it is.
func TestTightOfPrograms(t *testing.T) {
	m := program(2, scanOf(0, 0, nil, cmpOf("!=", five, five, cmpOf("=", reg(1), five))), 2)
	want := program(2, cmpOf("!=", five, five, scanOf(0, 0, keysOf(key(1, five)))), 2)
	if got := Tight(m); !Same(got, want) || !Check(got) {
		t.Error(progText(got))
	}
	for name, m := range map[string]api.Ram{
		"a register too many":  program(1, m.Main, 2),
		"no relation":          program(2, m.Main),
		"a wrong node beside":  program(2, seqOf(m.Main, api.RNode{Kind: 13}), 2),
		"too many registers":   program(257, m.Main, 2),
		"too many columns":     program(2, m.Main, 2, 9),
		"a register not set":   program(3, scanOf(0, 0, nil, cmpOf("=", reg(1), reg(2))), 2),
		"a scan that has more": program(2, turned(m.Main, func(n *api.RNode) { n.Exprs = exprsOf(five) }), 2),
	} {
		may(t, name, m, false)
	}
}

// P16.3: the most nodes within one another; each comparison goes as far as it can.
func TestTightOfDeep(t *testing.T) {
	const scans = 31
	n, want := put, put
	for i := range scans {
		n = scanOf(1, i+1, nil, cmpOf("=", reg(0), numeral(scans-i), n))
		want = scanOf(1, i+1, nil, want)
	}
	for i := range scans {
		want = cmpOf("=", reg(0), numeral(scans-i), want)
	}
	fix := func(n api.RNode) api.Ram { return program(scans+1, letOf(0, five, n), 0, 1) }
	m := fix(n)
	if !Check(m) || !Check(fix(want)) {
		t.Fatal("it may not be")
	}
	if got := Tight(m); !Same(got, fix(want)) {
		t.Errorf("%s\nwant %s", progText(got), progText(fix(want)))
	}
	nest := put
	for range 61 {
		nest = cmpOf("=", reg(0), five, nest)
	}
	nest = scanOf(1, 1, nil, nest)
	if m = fix(nest); !Check(m) {
		t.Fatal("it may not be")
	}
	got := Tight(m)
	at := got.Main.Kids[0]
	for range 61 {
		if at.Kind != api.RCmp {
			t.Fatal(progText(got))
		}
		at = at.Kids[0]
	}
	if at.Kind != api.RScan || at.Kids[0].Kind != api.RPut || !Check(got) {
		t.Error(progText(got))
	}
}
